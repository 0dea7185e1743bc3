/-
  MatI · MatS · ClipI · BothB · WindP · ShapeG · ClipA · WindS: texts of one claim, in one.
-/
import Derived.Test.YtfnbemmlafmjlaaGreatFnExactClipBitsM4
import Derived.Test.YtfnbemmlafmjlaaGreatFnExactClipBitsM5
import Derived.Deep.RegionHeld3
import Derived.Deep.DeepCutAuto
import Derived.Deep.DeepFit
import Derived.Test.YtfnbemmlafmjlaaGreatFnExactClipBitsM1
import Derived.Test.YtfnbemmlafmjlaaGreatFnExactClipBitsM3
import Derived.Test.YtfnbemmlafmjlaaGreatFnExactClipBitsM2
import Derived.Laws.AppendOwnNone
import Derived.Deep.RegionLaw

/-
  The program's MatOf. (By mati.py.)
-/
namespace Go.Proofs.YtfnbemmlafmjlaaGreat
open Go.RowKit
set_option linter.unusedVariables false

set_option maxHeartbeats 8000000 in
set_option maxRecDepth 100000 in
theorem implMatOfM_any (X : Nat → Nd) (A : Nat → Na) (ao : Option Addr) (n mm : Nat) (hw2 : ∀ i, i < n → (Lit.int .i64 (X i).par).wf = true) (id : Int) (hid : (Lit.int .i64 id).wf = true) (hS : ScOk X n) (w : World) (S : Stand w mm ao X n) (P : ∀ i, i < n → NrAt w ao i (X i) (A i)) :
    Calls Tryz.prog 128 #[.map (some mm), .int .i64 id] w fun r w' => r = .returned (.tuple #[.agg (mC (matM X n id).1), .bool (matM X n id).2]) ∧ Below w.heap.size w w' := by
  have HL := hide (fun (z : Int) (hz : (Lit.int .i64 z).wf = true) u (hu : Below w.heap.size w u) => (S.next hu).look z hz)
  have NN := hide (fun u (hu : Below w.heap.size w u) i (hi : i < n) => (P i hi).next hu)
  obtain ⟨R, hR⟩ : ∃ R, Hid (matM X n id = R) := ⟨_, rfl⟩
  rw [unhide hR]
  rcases first_is (X := X) (id := id) n with ⟨e, _⟩ | ⟨k, hk, e, ek, _⟩
  · rw [matM_none (by omega)] at hR
    have E1 := hide (stP_none (ao := ao) (X := X) (n := n) (z := id) (by omega))
    replace hR := hide (unhide hR).symm
    clear e S P
    go_enter Tryz.func128, Tryz.ntmps128
    go_upto_region 1 with fail
    have R4 := hide (show (w.alloc (.cells #[.int .i64 0, .int .i64 0, .int .i64 0, .int .i64 0, .int .i64 0, .int .i64 0] 31)).heap[w.heap.size]? = some (.cells (mC zero6) 31 (0, 0)) from new_row w (.cells #[.int .i64 0, .int .i64 0, .int .i64 0, .int .i64 0, .int .i64 0, .int .i64 0] 31))
    have HB := hide (al1_below w (.cells #[.int .i64 0, .int .i64 0, .int .i64 0, .int .i64 0, .int .i64 0, .int .i64 0] 31))
    generalize w.alloc (.cells #[.int .i64 0, .int .i64 0, .int .i64 0, .int .i64 0, .int .i64 0, .int .i64 0] 31) = W at R4 HB ⊢
    obtain ⟨b4, hb4⟩ : ∃ b, Hid (b = w.heap.size) := ⟨_, rfl⟩
    rw [← unhide hb4] at R4 ⊢
    have hl := unhide HL id hid _ (unhide HB)
    rw [unhide E1] at hl
    have HB2 := hide (below_setRow (unhide HB) (show w.heap.size ≤ b4 by rw [unhide hb4]; exact Nat.le_refl _) (mC zero6))
    have R4s := hide (mrow_set (C := mC zero6) (unhide R4))
    go_upto_region 3 with fail
    clear hl
    (try go_wp2_with (refine mat_put rfl _ _ rfl b4 (mC zero6) zero6 rfl rfl (unhide R4) rfl ?_))
    generalize W.setRow b4 (mC zero6) = W2 at HB2 R4s ⊢
    obtain ⟨c0, c1, c2, c3, c4, c5⟩ := mcells (unhide R4s)
    go_wp2_with fail
    refine bodyPost_ret (v := .tuple #[.agg (mC zero6), .bool false]) (by simp [results, Tryz.results128, go_sem, c0, c1, c2, c3, c4, c5, mC]) rfl ⟨by rw [unhide hR], ?_⟩
    exact unhide HB2
  · have hS1 := sceneOk_iff.2 hS
    rw [matM_own hS1 hk e] at hR
    obtain ⟨b, o, hao, _⟩ := (P k hk).heads
    subst hao
    have E1 := hide (stP_at (b := b) (o := o) e)
    have hdp := hide (depth_par hS hk)
    replace hS := hide hS
    have hwp := hide (hw2 k hk)
    replace hw2 := hide hw2
    clear S P hS1 e ek
    have RN := hide (fun u (hu : Below w.heap.size w u) i (hi : i < n) => show u.rangeAt b (o + i * 31) (ndC (X i) (A i)).toList by
      obtain ⟨b', o', e, h⟩ := (unhide NN u hu i hi).range
      cases e
      exact h)
    obtain ⟨p1, hp1⟩ : ∃ z, Hid ((X k).par = z) := ⟨_, rfl⟩
    obtain ⟨M1, hM1⟩ : ∃ z, Hid ((X k).mat = z) := ⟨_, rfl⟩
    rw [unhide hp1] at hR hdp hwp
    rw [unhide hM1] at hR
    go_enter Tryz.func128, Tryz.ntmps128
    go_upto_region 1 with fail
    have R4 := hide (show (w.alloc (.cells #[.int .i64 0, .int .i64 0, .int .i64 0, .int .i64 0, .int .i64 0, .int .i64 0] 31)).heap[w.heap.size]? = some (.cells (mC zero6) 31 (0, 0)) from new_row w (.cells #[.int .i64 0, .int .i64 0, .int .i64 0, .int .i64 0, .int .i64 0, .int .i64 0] 31))
    have HB := hide (al1_below w (.cells #[.int .i64 0, .int .i64 0, .int .i64 0, .int .i64 0, .int .i64 0, .int .i64 0] 31))
    have l4 := hide (show w.heap.size < (w.alloc (.cells #[.int .i64 0, .int .i64 0, .int .i64 0, .int .i64 0, .int .i64 0, .int .i64 0] 31)).heap.size by rw [al1_size]; omega)
    generalize w.alloc (.cells #[.int .i64 0, .int .i64 0, .int .i64 0, .int .i64 0, .int .i64 0, .int .i64 0] 31) = W at R4 HB l4 ⊢
    obtain ⟨b4, hb4⟩ : ∃ b, Hid (b = w.heap.size) := ⟨_, rfl⟩
    rw [← unhide hb4] at R4 ⊢
    have hl := unhide HL id hid _ (unhide HB)
    rw [unhide E1] at hl
    have hM := hide (show W.rangeAt b (o + k * 31 + 3) (mC M1).toList by rw [← unhide hM1]; exact nd_mat (unhide RN _ (unhide HB) k hk))
    go_upto_region 5 with (first | with_reducible refine load_mat rfl _ rfl b (o + k * 31 + 3) rfl M1 (unhide hM) ?_ | refine mat_new rfl _ _ rfl _ M1 rfl rfl rfl ?_)
    have R7 := hide (new_row W (.cells (mC M1) 31))
    replace R4 := hide (row_next (al1_below W (.cells (mC M1) 31)) (unhide R4))
    replace HB := hide (below_two (unhide HB) (al1_below W (.cells (mC M1) 31)))
    clear hl hM E1
    generalize W.alloc (.cells (mC M1) 31) = W2 at R4 R7 HB ⊢
    obtain ⟨b7, hb7⟩ : ∃ b, Hid (b = W.heap.size) := ⟨_, rfl⟩
    rw [← unhide hb7] at R7 ⊢
    have l7 := hide (show b4 < b7 ∧ w.heap.size ≤ b4 by have := unhide l4; rw [unhide hb7, unhide hb4]; omega)
    clear hb7 hb4 l4
    have cp : W2.cell? ⟨b, o + k * 31 + 1, none⟩ = some (.int .i64 p1) := by rw [← unhide hp1]; exact (unhide RN _ (unhide HB) k hk) 1 _ rfl
    have hl := unhide HL p1 (unhide hwp) _ (unhide HB)
    go_upto_region 6 with fail
    clear hl cp
    go_loopg [8] 3 (fun g v u => ∃ (z : Int) (m : M6), v = stP (some ⟨b, o, none⟩) X n z ∧ Hid (upM X n g z m = R) ∧ Hid (depthI X n z ≤ (g : Int)) ∧ Hid (u.heap[b7]? = some (.cells (mC m) 31 (0, 0))) ∧ Hid (u.heap[b4]? = some (.cells (mC zero6) 31 (0, 0))) ∧ Hid (Below w.heap.size w u))
    case atStart => exact ⟨p1, M1, rfl, hR, hide (by have := unhide hdp; omega), R7, R4, HB⟩
    case round =>
      clear hR hdp R7 R4 HB hwp hp1 hM1
      obtain ⟨z, m, rfl, hR, hdp, R7, R4, HB⟩ := hrel
      rcases first_is (X := X) (id := z) n with ⟨e, _⟩ | ⟨j, hj, e, ej, _⟩
      · rw [upM_none (by omega)] at hR
        rw [stP_none (show firstN X z n < 0 by omega)]
        replace hR := hide (unhide hR).symm
        clear e
        have h7 := hide (mat_rng (unhide R7))
        have HB2 := hide (below_setRow (unhide HB) (show w.heap.size ≤ b4 by have := unhide l7; omega) (mC m))
        have R4s := hide (mrow_set (C := mC m) (unhide R4))
        (try go_wp2_with (first | with_reducible refine load_mat rfl _ rfl b7 0 rfl m (unhide h7) ?_ | refine mat_put rfl _ _ rfl b4 (mC zero6) m rfl rfl (unhide R4) rfl ?_))
        generalize wr.setRow b4 (mC m) = W2 at HB2 R4s ⊢
        obtain ⟨c0, c1, c2, c3, c4, c5⟩ := mcells (unhide R4s)
        go_wp2_with fail
        refine bodyPost_ret (v := .tuple #[.agg (mC m), .bool true]) (by simp [results, Tryz.results128, go_sem, c0, c1, c2, c3, c4, c5, mC]) rfl ⟨by rw [unhide hR], ?_⟩
        exact unhide HB2
      · have d1 := depth_pos (unhide hS) hj
        have d2 := depth_par (unhide hS) hj
        rw [ej] at d1 d2
        obtain ⟨g, rfl⟩ : ∃ g, gk = g + 1 := ⟨gk - 1, by have := unhide hdp; omega⟩
        replace hdp := hide (show depthI X n (X j).par ≤ (g : Int) by have := unhide hdp; push_cast at this; omega)
        clear d1 d2 ej
        rw [stP_at e]
        have hRy := hide (fun (hc : comp6k (X j).mat m = true) => (upM_yes e (f := g) hc).symm.trans (unhide hR))
        have hRn := hide (fun (hc : comp6k (X j).mat m = false) => (upM_no e (f := g) hc).symm.trans (unhide hR))
        have hwp := hide (unhide hw2 j hj)
        have RNj := hide (fun u (hu : Below w.heap.size w u) => unhide RN u hu j hj)
        obtain ⟨xx, hxx⟩ : ∃ z, Hid (X j = z) := ⟨_, rfl⟩
        obtain ⟨ss, hss⟩ : ∃ z, Hid (A j = z) := ⟨_, rfl⟩
        rw [unhide hxx] at hRy hRn hwp RNj hdp
        rw [unhide hss] at RNj
        obtain ⟨M, hM⟩ : ∃ z, Hid (xx.mat = z) := ⟨_, rfl⟩
        rw [unhide hM] at hRy hRn
        obtain ⟨pz, hpz⟩ : ∃ z, Hid (xx.par = z) := ⟨_, rfl⟩
        rw [unhide hpz] at hRy hwp hdp
        have hRN := hide (fun u (hu : Below wr.heap.size wr u) => show u.rangeAt b (o + j * 31 + 3) (mC M).toList by rw [← unhide hM]; exact nd_mat (unhide RNj u (below_two (unhide HB) hu)))
        have hR7 := hide (fun u (hu : Below wr.heap.size wr u) => mat_rng (row_next hu (unhide R7)))
        clear hR e hxx hss hM
        go_upto_region 8 with fail
        go_cut [9, 10] (fun s t u => t = .bool (comp6k M m) ∧ ∃ q, s = .pointer (some ⟨q, 0, none⟩) ∧ Hid (wr.heap.size ≤ q) ∧ Hid (u.heap[q]? = some (.cells (mC (comp6 M m)) 31 (0, 0))) ∧ Hid (Below wr.heap.size wr u))
        case first =>
          refine wp_region_held_drew (S := (fun u => Hid (Below wr.heap.size wr u))) (by kernel_rfl) ?_ (fun hHeld => ?_)
          · exact hide (Below.refl _ _).drew
          have HU := hide (show Below wr.heap.size wr wr.drew from (Below.refl _ _).drew)
          generalize wr.drew = V8 at HU hHeld ⊢
          refine wpAnyH_take (i := 0) (oi := { dst := some 36, op := Op.move (Operand.tmp 8), type := 99, pos := "l17_shape.go:50", after := #[], guard := none }) (v := ?_) rfl (by kernel_rfl) (by kernel_rfl) (by kernel_rfl) (fun _ _ _ h => h) (Or.inl ⟨by rfl, ?_⟩) (by assumption) ?_
          rotate_left
          · intro w hSw; (try dsimp only at hSw); go_simp <;> with_reducible rfl
          try simp only [Act.put, List.setIfInBounds_toArray, List.set_cons_zero, List.set_cons_succ]
          refine wpAnyH_take (i := 1) (oi := { dst := some 37, op := Op.nilCheck (Operand.tmp 36), type := 0, pos := "l17_shape.go:50", after := #[{ on := 0, ground := Ground.data }], guard := none }) (v := ?_) rfl (by kernel_rfl) (by kernel_rfl) (by kernel_rfl) (fun _ _ _ h => h) (Or.inl ⟨by rfl, ?_⟩) (by assumption) ?_
          rotate_left
          · intro w hSw; (try dsimp only at hSw); go_simp <;> with_reducible rfl
          try simp only [Act.put, List.setIfInBounds_toArray, List.set_cons_zero, List.set_cons_succ]
          refine wpAnyH_take (i := 2) (oi := { dst := some 38, op := Op.fieldAddr 42 (Operand.tmp 37) 3, type := 0, pos := "l17_shape.go:50", after := #[{ on := 1, ground := Ground.data }], guard := none }) (v := ?_) rfl (by kernel_rfl) (by kernel_rfl) (by kernel_rfl) (fun _ _ _ h => h) (Or.inl ⟨by rfl, ?_⟩) (by assumption) ?_
          rotate_left
          · intro w hSw; (try dsimp only at hSw); go_simp <;> with_reducible rfl
          try simp only [Act.put, List.setIfInBounds_toArray, List.set_cons_zero, List.set_cons_succ]
          refine wpAnyH_take (i := 3) (oi := { dst := some 39, op := Op.load 31 (Operand.tmp 38), type := 31, pos := "l17_shape.go:50", after := #[{ on := 2, ground := Ground.data }], guard := none }) (v := .agg (mC M)) rfl (by kernel_rfl) (by kernel_rfl) (by kernel_rfl) (fun _ _ _ h => h) (yields_mat rfl _ rfl b (o + j * 31 + 3) rfl M (fun u hu => unhide hRN u (unhide hu))) (by assumption) ?_
          try simp only [Act.put, List.setIfInBounds_toArray, List.set_cons_zero, List.set_cons_succ]
          refine wpAnyH_take (i := 4) (oi := { dst := some 40, op := Op.load 31 (Operand.tmp 7), type := 31, pos := "l17_shape.go:50", after := #[], guard := none }) (v := .agg (mC m)) rfl (by kernel_rfl) (by kernel_rfl) (by kernel_rfl) (fun _ _ _ h => h) (yields_mat rfl _ rfl b7 0 rfl m (fun u hu => unhide hR7 u (unhide hu))) (by assumption) ?_
          try simp only [Act.put, List.setIfInBounds_toArray, List.set_cons_zero, List.set_cons_succ]
          refine wpAnyH_ready (rs := [5, 9]) (by kernel_rfl) (by simp) ?_
          refine AllReadyH.cons (o := { dst := some 41, op := Op.call { callee := Callee.value (Operand.func 147), args := #[Operand.tmp 39, Operand.tmp 40], argTypes := #[31, 31] }, type := 83, pos := "l17_shape.go:50", after := #[{ on := 3, ground := Ground.data }, { on := 4, ground := Ground.data }], guard := none }) rfl (fun K hK => ?_) ?_
          · go_simp
            (go_at_call 147; go_fit (implCompose_m M m _); rintro r VA ⟨rfl, hb9⟩)
            replace HU := hide (below_two (unhide HU) hb9)
            clear hb9
            refine hK.out _ _ ?_ (fun hHeld => ?_)
            · exact HU
            clear hK K
            try simp only [Act.put, List.setIfInBounds_toArray, List.set_cons_zero, List.set_cons_succ]
            refine wpAnyH_take (i := 6) (oi := { dst := some 35, op := Op.move (Operand.tmp 41), type := 83, pos := "l17_shape.go:50", after := #[{ on := 5, ground := Ground.data }], guard := none }) (v := ?_) rfl (by kernel_rfl) (by kernel_rfl) (by kernel_rfl) (fun _ _ _ h => h) (Or.inl ⟨by rfl, ?_⟩) (by assumption) ?_
            rotate_left
            · intro w hSw; (try dsimp only at hSw); go_simp <;> with_reducible rfl
            try simp only [Act.put, List.setIfInBounds_toArray, List.set_cons_zero, List.set_cons_succ]
            refine wpAnyH_take (i := 7) (oi := { dst := some 42, op := Op.extract (Operand.tmp 35) 0, type := 31, pos := "l17_shape.go:50", after := #[{ on := 6, ground := Ground.data }], guard := none }) (v := ?_) rfl (by kernel_rfl) (by kernel_rfl) (by kernel_rfl) (fun _ _ _ h => h) (Or.inl ⟨by rfl, ?_⟩) (by assumption) ?_
            rotate_left
            · intro w hSw; (try dsimp only at hSw); go_simp <;> with_reducible rfl
            try simp only [Act.put, List.setIfInBounds_toArray, List.set_cons_zero, List.set_cons_succ]
            refine wpAnyH_take (i := 8) (oi := { dst := some 43, op := Op.extract (Operand.tmp 35) 1, type := 4, pos := "l17_shape.go:50", after := #[{ on := 6, ground := Ground.data }, { on := 10, ground := Ground.gcOnly Departure.lateStores }], guard := none }) (v := ?_) rfl (by kernel_rfl) (by kernel_rfl) (by kernel_rfl) (fun _ _ _ h => h) (Or.inl ⟨by rfl, ?_⟩) (by assumption) ?_
            rotate_left
            · intro w hSw; (try dsimp only at hSw); go_simp <;> with_reducible rfl
            try simp only [Act.put, List.setIfInBounds_toArray, List.set_cons_zero, List.set_cons_succ]
            refine wpAnyH_ready (rs := [9]) (by kernel_rfl) (by simp) ?_
            refine AllReadyH.cons (o := { dst := some 9, op := Op.alloc 31, type := 0, pos := "l17_shape.go:50", after := #[], guard := none }) rfl (fun K hK => ?_) AllReadyH.nil
            refine mstep_alloc rfl rfl ?_
            have R9 := hide (new_row VA (.cells (mC zero6) 31))
            have l9 := hide (show wr.heap.size ≤ VA.heap.size from (unhide HU).size)
            replace HU := hide (below_two (unhide HU) (al1_below VA (.cells (mC zero6) 31)))
            generalize VA.alloc (.cells (mC zero6) 31) = VB at HU R9 ⊢
            generalize VA.heap.size = b9 at R9 l9 ⊢
            refine hK.out _ _ ?_ (fun hHeld => ?_)
            · exact HU
            clear hK K
            try simp only [Act.put, List.setIfInBounds_toArray, List.set_cons_zero, List.set_cons_succ]
            refine wpAnyH_ready (rs := [10]) (by kernel_rfl) (by simp) ?_
            refine AllReadyH.cons (o := { dst := none, op := Op.store 31 (Operand.tmp 9) (Operand.tmp 42), type := 0, pos := "l17_shape.go:50", after := #[{ on := 9, ground := Ground.data }, { on := 7, ground := Ground.data }, { on := 5, ground := Ground.chain }, { on := 0, ground := Ground.phase }, { on := 1, ground := Ground.phase }, { on := 2, ground := Ground.phase }, { on := 3, ground := Ground.phase }, { on := 4, ground := Ground.phase }, { on := 5, ground := Ground.phase }, { on := 6, ground := Ground.phase }, { on := 7, ground := Ground.phase }, { on := 8, ground := Ground.textOnly Departure.lateStores }, { on := 9, ground := Ground.phase }], guard := none }) rfl (fun K hK => ?_) AllReadyH.nil
            refine mstep_store rfl _ _ rfl rfl rfl (unhide R9) ?_
            replace R9 := hide (mrow_set (C := mC (comp6 M m)) (unhide R9))
            replace HU := hide (below_setRow (unhide HU) (unhide l9) (mC (comp6 M m)))
            generalize VB.setRow b9 (mC (comp6 M m)) = WL at R9 HU ⊢
            refine hK.out _ _ ?_ (fun hHeld => ?_)
            · exact HU
            clear hK K
            try simp only [Act.put]
            refine wpAnyH_take (i := 11) (oi := { dst := some 10, op := Op.assign (Operand.tmp 43), type := 4, pos := "l17_shape.go:50", after := #[{ on := 8, ground := Ground.data }, { on := 10, ground := Ground.chain }, { on := 0, ground := Ground.phase }, { on := 1, ground := Ground.phase }, { on := 2, ground := Ground.phase }, { on := 3, ground := Ground.phase }, { on := 4, ground := Ground.phase }, { on := 5, ground := Ground.phase }, { on := 6, ground := Ground.phase }, { on := 7, ground := Ground.phase }, { on := 8, ground := Ground.phase }, { on := 9, ground := Ground.phase }, { on := 10, ground := Ground.phase }], guard := none }) (v := ?_) rfl (by kernel_rfl) (by kernel_rfl) (by kernel_rfl) (fun _ _ _ h => h) (Or.inl ⟨by rfl, ?_⟩) (by assumption) ?_
            rotate_left
            · intro w hSw; (try dsimp only at hSw); go_simp <;> with_reducible rfl
            try simp only [Act.put, List.setIfInBounds_toArray, List.set_cons_zero, List.set_cons_succ]
            refine wpAnyH_done (by kernel_rfl) ?_ _
            go_wp2_with fail
            go_meet
            exact ⟨rfl, b9, rfl, l9, R9, HU⟩
          refine AllReadyH.cons (o := { dst := some 9, op := Op.alloc 31, type := 0, pos := "l17_shape.go:50", after := #[], guard := none }) rfl (fun K hK => ?_) ?_
          · refine mstep_alloc rfl rfl ?_
            have R9 := hide (new_row V8 (.cells (mC zero6) 31))
            have l9 := hide (show wr.heap.size ≤ V8.heap.size from (unhide HU).size)
            replace HU := hide (below_two (unhide HU) (al1_below V8 (.cells (mC zero6) 31)))
            generalize V8.alloc (.cells (mC zero6) 31) = VA at HU R9 ⊢
            generalize V8.heap.size = b9 at R9 l9 ⊢
            refine hK.out _ _ ?_ (fun hHeld => ?_)
            · exact HU
            clear hK K
            try simp only [Act.put, List.setIfInBounds_toArray, List.set_cons_zero, List.set_cons_succ]
            refine wpAnyH_ready (rs := [5]) (by kernel_rfl) (by simp) ?_
            refine AllReadyH.cons (o := { dst := some 41, op := Op.call { callee := Callee.value (Operand.func 147), args := #[Operand.tmp 39, Operand.tmp 40], argTypes := #[31, 31] }, type := 83, pos := "l17_shape.go:50", after := #[{ on := 3, ground := Ground.data }, { on := 4, ground := Ground.data }], guard := none }) rfl (fun K hK => ?_) AllReadyH.nil
            go_simp
            (go_at_call 147; go_fit (implCompose_m M m _); rintro r VB ⟨rfl, hb9⟩)
            replace R9 := hide (row_next hb9 (unhide R9))
            replace HU := hide (below_two (unhide HU) hb9)
            clear hb9
            refine hK.out _ _ ?_ (fun hHeld => ?_)
            · exact HU
            clear hK K
            try simp only [Act.put, List.setIfInBounds_toArray, List.set_cons_zero, List.set_cons_succ]
            refine wpAnyH_take (i := 6) (oi := { dst := some 35, op := Op.move (Operand.tmp 41), type := 83, pos := "l17_shape.go:50", after := #[{ on := 5, ground := Ground.data }], guard := none }) (v := ?_) rfl (by kernel_rfl) (by kernel_rfl) (by kernel_rfl) (fun _ _ _ h => h) (Or.inl ⟨by rfl, ?_⟩) (by assumption) ?_
            rotate_left
            · intro w hSw; (try dsimp only at hSw); go_simp <;> with_reducible rfl
            try simp only [Act.put, List.setIfInBounds_toArray, List.set_cons_zero, List.set_cons_succ]
            refine wpAnyH_take (i := 7) (oi := { dst := some 42, op := Op.extract (Operand.tmp 35) 0, type := 31, pos := "l17_shape.go:50", after := #[{ on := 6, ground := Ground.data }], guard := none }) (v := ?_) rfl (by kernel_rfl) (by kernel_rfl) (by kernel_rfl) (fun _ _ _ h => h) (Or.inl ⟨by rfl, ?_⟩) (by assumption) ?_
            rotate_left
            · intro w hSw; (try dsimp only at hSw); go_simp <;> with_reducible rfl
            try simp only [Act.put, List.setIfInBounds_toArray, List.set_cons_zero, List.set_cons_succ]
            refine wpAnyH_take (i := 8) (oi := { dst := some 43, op := Op.extract (Operand.tmp 35) 1, type := 4, pos := "l17_shape.go:50", after := #[{ on := 6, ground := Ground.data }, { on := 10, ground := Ground.gcOnly Departure.lateStores }], guard := none }) (v := ?_) rfl (by kernel_rfl) (by kernel_rfl) (by kernel_rfl) (fun _ _ _ h => h) (Or.inl ⟨by rfl, ?_⟩) (by assumption) ?_
            rotate_left
            · intro w hSw; (try dsimp only at hSw); go_simp <;> with_reducible rfl
            try simp only [Act.put, List.setIfInBounds_toArray, List.set_cons_zero, List.set_cons_succ]
            refine wpAnyH_ready (rs := [10]) (by kernel_rfl) (by simp) ?_
            refine AllReadyH.cons (o := { dst := none, op := Op.store 31 (Operand.tmp 9) (Operand.tmp 42), type := 0, pos := "l17_shape.go:50", after := #[{ on := 9, ground := Ground.data }, { on := 7, ground := Ground.data }, { on := 5, ground := Ground.chain }, { on := 0, ground := Ground.phase }, { on := 1, ground := Ground.phase }, { on := 2, ground := Ground.phase }, { on := 3, ground := Ground.phase }, { on := 4, ground := Ground.phase }, { on := 5, ground := Ground.phase }, { on := 6, ground := Ground.phase }, { on := 7, ground := Ground.phase }, { on := 8, ground := Ground.textOnly Departure.lateStores }, { on := 9, ground := Ground.phase }], guard := none }) rfl (fun K hK => ?_) AllReadyH.nil
            refine mstep_store rfl _ _ rfl rfl rfl (unhide R9) ?_
            replace R9 := hide (mrow_set (C := mC (comp6 M m)) (unhide R9))
            replace HU := hide (below_setRow (unhide HU) (unhide l9) (mC (comp6 M m)))
            generalize VB.setRow b9 (mC (comp6 M m)) = WL at R9 HU ⊢
            refine hK.out _ _ ?_ (fun hHeld => ?_)
            · exact HU
            clear hK K
            try simp only [Act.put]
            refine wpAnyH_take (i := 11) (oi := { dst := some 10, op := Op.assign (Operand.tmp 43), type := 4, pos := "l17_shape.go:50", after := #[{ on := 8, ground := Ground.data }, { on := 10, ground := Ground.chain }, { on := 0, ground := Ground.phase }, { on := 1, ground := Ground.phase }, { on := 2, ground := Ground.phase }, { on := 3, ground := Ground.phase }, { on := 4, ground := Ground.phase }, { on := 5, ground := Ground.phase }, { on := 6, ground := Ground.phase }, { on := 7, ground := Ground.phase }, { on := 8, ground := Ground.phase }, { on := 9, ground := Ground.phase }, { on := 10, ground := Ground.phase }], guard := none }) (v := ?_) rfl (by kernel_rfl) (by kernel_rfl) (by kernel_rfl) (fun _ _ _ h => h) (Or.inl ⟨by rfl, ?_⟩) (by assumption) ?_
            rotate_left
            · intro w hSw; (try dsimp only at hSw); go_simp <;> with_reducible rfl
            try simp only [Act.put, List.setIfInBounds_toArray, List.set_cons_zero, List.set_cons_succ]
            refine wpAnyH_done (by kernel_rfl) ?_ _
            go_wp2_with fail
            go_meet
            exact ⟨rfl, b9, rfl, l9, R9, HU⟩
          exact AllReadyH.nil
        case rest =>
        obtain ⟨rfl, b9, rfl, l9, R9, HU⟩ := hcut
        replace R7 := hide (row_next (unhide HU) (unhide R7))
        replace R4 := hide (row_next (unhide HU) (unhide R4))
        replace HB := hide (below_two (unhide HB) (unhide HU))
        clear HU hRN hR7 l9
        cases hc : comp6k M m with
        | false =>
          have hR := hide (unhide hRn hc).symm
          clear hRn hRy hc
          have HB2 := hide (below_setRow (unhide HB) (show w.heap.size ≤ b4 by have := unhide l7; omega) (mC zero6))
          have R4s := hide (mrow_set (C := mC zero6) (unhide R4))
          (try go_wp2_with (refine mat_put rfl _ _ rfl b4 (mC zero6) zero6 rfl rfl (unhide R4) rfl ?_))
          generalize wc.setRow b4 (mC zero6) = W2 at HB2 R4s ⊢
          obtain ⟨c0, c1, c2, c3, c4, c5⟩ := mcells (unhide R4s)
          go_wp2_with fail
          refine bodyPost_ret (v := .tuple #[.agg (mC zero6), .bool false]) (by simp [results, Tryz.results128, go_sem, c0, c1, c2, c3, c4, c5, mC]) rfl ⟨by rw [unhide hR], ?_⟩
          exact unhide HB2
        | true =>
          have hR := hide (unhide hRy hc)
          clear hRn hRy hc
          have h9 := hide (mat_rng (unhide R9))
          have HB2 := hide (below_setRow (unhide HB) (show w.heap.size ≤ b7 by have := unhide l7; omega) (mC (comp6 M m)))
          have R7s := hide (mrow_set (C := mC (comp6 M m)) (unhide R7))
          have R4s := hide ((mrow_other (C := mC (comp6 M m)) (u := wc) (show b4 ≠ b7 by have := unhide l7; omega)).trans (unhide R4))
          go_upto_region 7 with (first | with_reducible refine load_mat rfl _ rfl b9 0 rfl (comp6 M m) (unhide h9) ?_ | refine mat_put rfl _ _ rfl b7 (mC m) (comp6 M m) rfl rfl (unhide R7) rfl ?_)
          clear h9 R7 R4 R9 HB
          generalize wc.setRow b7 (mC (comp6 M m)) = W2 at HB2 R7s R4s ⊢
          have cp : W2.cell? ⟨b, o + j * 31 + 1, none⟩ = some (.int .i64 pz) := by rw [← unhide hpz]; exact (unhide RNj _ (unhide HB2)) 1 _ rfl
          have hl := unhide HL pz (unhide hwp) _ (unhide HB2)
          go_wp2_with fail
          go_roundg g
          case measure => omega
          case rel => exact ⟨pz, _, rfl, hR, hdp, R7s, R4s, HB2⟩

set_option maxHeartbeats 4000000 in
set_option maxRecDepth 100000 in
theorem implMatOf_any (X : Nat → Nd) (A : Nat → Na) (ao : Option Addr) (n cp : Nat) (hn : n ≤ 1048576) (hs : ∀ i, i < n → (X i).Small) (hw1 : ∀ i, i < n → (Lit.int .i64 (X i).id).wf = true) (hw2 : ∀ i, i < n → (Lit.int .i64 (X i).par).wf = true) (id : Int) (hid : (Lit.int .i64 id).wf = true) (w : World) (P : ∀ i, i < n → NrAt w ao i (X i) (A i)) :
    Calls Tryz.prog 96 #[.agg #[.slice ao n cp], .int .i64 id] w fun r w' => r = .returned (.tuple #[.agg (mC (matM X n id).1), .bool (matM X n id).2]) ∧ Below w.heap.size w w' := by
  have E1 := hide (fun u (hu : Below w.heap.size w u) => implSceneOk_any X A ao n cp hn hs hw1 hw2 u (fun i hi => (P i hi).next hu))
  have E2 := hide (fun u (hu : Below w.heap.size w u) => implStandingOf_any X A ao n cp hn hw1 u (fun i hi => (P i hi).next hu))
  have E3 := hide (fun (h : sceneOkB X n = true) m u (hu : Below w.heap.size w u) (S : Stand u m ao X n) => implMatOfM_any X A ao n m hw2 id hid (sceneOk_iff.1 h) u S (fun i hi => (P i hi).next hu))
  have hbad := hide (fun (h : sceneOkB X n = false) => matM_bad (id := id) h)
  obtain ⟨R, hR⟩ : ∃ R, Hid (matM X n id = R) := ⟨_, rfl⟩
  rw [unhide hR] at E3 hbad ⊢
  clear P hs hw1 hw2 hR
  go_enter Tryz.func96, Tryz.ntmps96
  go_upto_region 1 with fail
  have R2 := hide (al2_0 w (.cells #[.slice ao n cp] 26) (.cells #[.int .i64 0, .int .i64 0, .int .i64 0, .int .i64 0, .int .i64 0, .int .i64 0] 31))
  have R4 := hide (show ((w.alloc (.cells #[.slice ao n cp] 26)).alloc (.cells #[.int .i64 0, .int .i64 0, .int .i64 0, .int .i64 0, .int .i64 0, .int .i64 0] 31)).heap[w.heap.size + 1]? = some (.cells (mC zero6) 31 (0, 0)) from al2_1 w (.cells #[.slice ao n cp] 26) (.cells #[.int .i64 0, .int .i64 0, .int .i64 0, .int .i64 0, .int .i64 0, .int .i64 0] 31))
  have HB := hide (al2_below w (.cells #[.slice ao n cp] 26) (.cells #[.int .i64 0, .int .i64 0, .int .i64 0, .int .i64 0, .int .i64 0, .int .i64 0] 31))
  generalize (w.alloc (.cells #[.slice ao n cp] 26)).alloc (.cells #[.int .i64 0, .int .i64 0, .int .i64 0, .int .i64 0, .int .i64 0, .int .i64 0] 31) = W at R2 R4 HB ⊢
  obtain ⟨b2, hb2⟩ : ∃ b, Hid (b = w.heap.size) := ⟨_, rfl⟩
  rw [← unhide hb2] at R2 R4 ⊢
  have l2 := hide (show w.heap.size ≤ b2 by rw [unhide hb2]; exact Nat.le_refl _)
  clear hb2
  have c2 := row1 (unhide R2)
  go_wp2_with fail
  go_fit (unhide E1 _ (unhide HB))
  rintro r w1 ⟨rfl, hb⟩
  replace R2 := hide (row_next hb (unhide R2))
  replace R4 := hide (row_next hb (unhide R4))
  replace HB := hide (below_two (unhide HB) hb)
  clear hb c2 E1
  cases hok : sceneOkB X n with
  | false =>
    have hR := hide (unhide hbad hok)
    clear hbad hok E2 E3
    have HB2 := hide (below_setRow (unhide HB) (show w.heap.size ≤ b2 + 1 by have := unhide l2; omega) (mC zero6))
    have R4s := hide (mrow_set (C := mC zero6) (unhide R4))
    (try go_wp2_with (refine mat_put rfl _ _ rfl (b2 + 1) (mC zero6) zero6 rfl rfl (unhide R4) rfl ?_))
    generalize w1.setRow (b2 + 1) (mC zero6) = W2 at HB2 R4s ⊢
    obtain ⟨c0, c1, c2, c3, c4, c5⟩ := mcells (unhide R4s)
    go_wp2_with fail
    refine bodyPost_ret (v := .tuple #[.agg (mC zero6), .bool false]) (by simp [results, Tryz.results96, go_sem, c0, c1, c2, c3, c4, c5, mC]) rfl ⟨by rw [unhide hR], ?_⟩
    exact unhide HB2
  | true =>
    replace E3 := hide (unhide E3 hok)
    clear hok hbad
    have c2 := row1 (unhide R2)
    go_wp2_with fail
    go_fit (unhide E2 _ (unhide HB))
    rintro r w2 ⟨m, rfl, S, _, hb⟩
    replace R4 := hide (row_next hb (unhide R4))
    replace HB := hide (below_two (unhide HB) hb)
    replace S := hide S
    clear hb c2 E2 R2
    go_wp2_with fail
    go_fit (unhide E3 m _ (unhide HB) (unhide S))
    rintro r w3 ⟨rfl, hb⟩
    replace R4 := hide (row_next hb (unhide R4))
    replace HB := hide (below_two (unhide HB) hb)
    clear hb E3 S
    obtain ⟨m1, y1⟩ := R
    have HB2 := hide (below_setRow (unhide HB) (show w.heap.size ≤ b2 + 1 by have := unhide l2; omega) (mC m1))
    have R4s := hide (mrow_set (C := mC m1) (unhide R4))
    (try go_wp2_with (refine mat_put rfl _ _ rfl (b2 + 1) (mC zero6) m1 rfl rfl (unhide R4) rfl ?_))
    generalize w3.setRow (b2 + 1) (mC m1) = W2 at HB2 R4s ⊢
    obtain ⟨c0, c1, c2, c3, c4, c5⟩ := mcells (unhide R4s)
    go_wp2_with fail
    refine bodyPost_ret (v := .tuple #[.agg (mC m1), .bool y1]) (by simp [results, Tryz.results96, go_sem, c0, c1, c2, c3, c4, c5, mC]) rfl ⟨rfl, ?_⟩
    exact unhide HB2
end Go.Proofs.YtfnbemmlafmjlaaGreat

/-
  The specification's MatOf. (By mati.py.)
-/
namespace Go.Proofs.YtfnbemmlafmjlaaGreat
open Go.RowKit
set_option linter.unusedVariables false

theorem matM_z {X : Nat → Nd} {n : Nat} (hS : ScOk X n) (f : Nat) (m : M6) : upM X n f 0 m = (m, true) := upM_none (scOk_noZ hS) f m

set_option maxHeartbeats 8000000 in
set_option maxRecDepth 100000 in
theorem specMatOf_any (X : Nat → Nd) (A : Nat → Na) (ao : Option Addr) (n cp : Nat) (hn : n ≤ 1048576) (hs : ∀ i, i < n → (X i).Small) (id : Int) (w : World) (P : ∀ i, i < n → NrAt w ao i (X i) (A i)) :
    Calls Tryz.prog 44 #[.agg #[.slice ao n cp], .int .i64 id] w fun r w' => r = .returned (.tuple #[.agg (mC (matM X n id).1), .bool (matM X n id).2]) ∧ Below w.heap.size w w' := by
  have E1 := hide (fun u (hu : Below w.heap.size w u) => specSceneOk_any X A ao n cp hn hs u (fun i hi => (P i hi).next hu))
  have E2 := hide (fun z u (hu : Below w.heap.size w u) => specNodeAt_any X A ao n cp hn z u (fun i hi => (P i hi).next hu))
  have hbad := hide (fun (h : sceneOkB X n = false) => matM_bad (id := id) h)
  have hnone := hide (fun (h : firstN X id n < 0) => matM_none (X := X) (n := n) h)
  have hyes := hide (fun (h1 : sceneOkB X n = true) (h : ¬ firstN X id n < 0) => matM_is h1 h)
  obtain ⟨R, hR⟩ : ∃ R, Hid (matM X n id = R) := ⟨_, rfl⟩
  rw [unhide hR] at hbad hnone hyes ⊢
  have NN := hide (fun u (hu : Below w.heap.size w u) i (hi : i < n) => (P i hi).next hu)
  clear P hs hR
  go_enter Tryz.func44, Tryz.ntmps44
  go_upto_region 1 with fail
  have R2 := hide (al2_0 w (.cells #[.slice ao n cp] 26) (.cells #[.int .i64 0, .int .i64 0, .int .i64 0, .int .i64 0, .int .i64 0, .int .i64 0] 31))
  have R4 := hide (show ((w.alloc (.cells #[.slice ao n cp] 26)).alloc (.cells #[.int .i64 0, .int .i64 0, .int .i64 0, .int .i64 0, .int .i64 0, .int .i64 0] 31)).heap[w.heap.size + 1]? = some (.cells (mC zero6) 31 (0, 0)) from al2_1 w (.cells #[.slice ao n cp] 26) (.cells #[.int .i64 0, .int .i64 0, .int .i64 0, .int .i64 0, .int .i64 0, .int .i64 0] 31))
  have HB := hide (al2_below w (.cells #[.slice ao n cp] 26) (.cells #[.int .i64 0, .int .i64 0, .int .i64 0, .int .i64 0, .int .i64 0, .int .i64 0] 31))
  have l4 := hide (show w.heap.size + 1 < ((w.alloc (.cells #[.slice ao n cp] 26)).alloc (.cells #[.int .i64 0, .int .i64 0, .int .i64 0, .int .i64 0, .int .i64 0, .int .i64 0] 31)).heap.size by rw [al1_size, al1_size]; omega)
  generalize (w.alloc (.cells #[.slice ao n cp] 26)).alloc (.cells #[.int .i64 0, .int .i64 0, .int .i64 0, .int .i64 0, .int .i64 0, .int .i64 0] 31) = W at R2 R4 HB l4 ⊢
  obtain ⟨b2, hb2⟩ : ∃ b, Hid (b = w.heap.size) := ⟨_, rfl⟩
  rw [← unhide hb2] at R2 R4 ⊢
  have l2 := hide (show w.heap.size ≤ b2 ∧ b2 + 1 < W.heap.size by rw [unhide hb2]; exact ⟨Nat.le_refl _, unhide l4⟩)
  clear hb2 l4
  have c2 := row1 (unhide R2)
  go_wp2_with fail
  go_fit (unhide E1 _ (unhide HB))
  rintro r w1 ⟨rfl, hb⟩
  replace R2 := hide (row_next hb (unhide R2))
  replace R4 := hide (row_next hb (unhide R4))
  replace HB := hide (below_two (unhide HB) hb)
  replace l2 := hide (show w.heap.size ≤ b2 ∧ b2 + 1 < w1.heap.size from ⟨(unhide l2).1, Nat.lt_of_lt_of_le (unhide l2).2 hb.size⟩)
  clear hb c2 E1
  cases hok : sceneOkB X n with
  | false =>
    have hR := hide (unhide hbad hok)
    clear hbad hok hnone hyes
    have HB2 := hide (below_setRow (unhide HB) (show w.heap.size ≤ b2 + 1 by have := unhide l2; omega) (mC zero6))
    have R4s := hide (mrow_set (C := mC zero6) (unhide R4))
    (try go_wp2_with (refine mat_put rfl _ _ rfl (b2 + 1) (mC zero6) zero6 rfl rfl (unhide R4) rfl ?_))
    generalize w1.setRow (b2 + 1) (mC zero6) = W2 at HB2 R4s ⊢
    obtain ⟨c0, c1, c2, c3, c4, c5⟩ := mcells (unhide R4s)
    go_wp2_with fail
    refine bodyPost_ret (v := .tuple #[.agg (mC zero6), .bool false]) (by simp [results, Tryz.results44, go_sem, c0, c1, c2, c3, c4, c5, mC]) rfl ⟨by rw [unhide hR], ?_⟩
    exact unhide HB2
  | true =>
    have hS := sceneOk_iff.1 hok
    replace hyes := hide (unhide hyes hok)
    clear hok hbad
    obtain ⟨b, o, hao⟩ : ∃ b o, n = 0 ∨ ao = some ⟨b, o, none⟩ := by
      rcases Nat.eq_zero_or_pos n with h0 | h0
      · exact ⟨0, 0, .inl h0⟩
      · obtain ⟨b, o, h, _⟩ := (unhide NN _ (Below.refl _ _) 0 h0).range
        exact ⟨b, o, .inr h⟩
    have c2 := row1 (unhide R2)
    have E3 := hide (unhide E2 id _ (unhide HB))
    obtain ⟨z0, hz0⟩ : ∃ z, Hid (firstN X id n = z) := ⟨_, rfl⟩
    rw [unhide hz0] at E3
    go_wp2_with fail
    go_fit (unhide E3)
    rintro r w2 ⟨rfl, hb⟩
    replace R2 := hide (row_next hb (unhide R2))
    replace R4 := hide (row_next hb (unhide R4))
    replace HB := hide (below_two (unhide HB) hb)
    replace l2 := hide (show w.heap.size ≤ b2 ∧ b2 + 1 < w2.heap.size from ⟨(unhide l2).1, Nat.lt_of_lt_of_le (unhide l2).2 hb.size⟩)
    clear hb c2 E3
    by_cases hz : z0 < 0
    · have hR := hide (unhide hnone (by rw [unhide hz0]; exact hz))
      clear hnone hyes hz0
      have HB2 := hide (below_setRow (unhide HB) (show w.heap.size ≤ b2 + 1 by have := unhide l2; omega) (mC zero6))
      have R4s := hide (mrow_set (C := mC zero6) (unhide R4))
      (try go_wp2_with (refine mat_put rfl _ _ rfl (b2 + 1) (mC zero6) zero6 rfl rfl (unhide R4) rfl ?_))
      generalize w2.setRow (b2 + 1) (mC zero6) = W2 at HB2 R4s ⊢
      obtain ⟨c0, c1, c2, c3, c4, c5⟩ := mcells (unhide R4s)
      go_wp2_with fail
      refine bodyPost_ret (v := .tuple #[.agg (mC zero6), .bool false]) (by simp [results, Tryz.results44, go_sem, c0, c1, c2, c3, c4, c5, mC]) rfl ⟨by rw [unhide hR], ?_⟩
      exact unhide HB2
    · have hf : ¬ firstN X id n < 0 := by rw [unhide hz0]; exact hz
      have hR := hide (unhide hyes (by omega)).symm
      obtain ⟨k, hk, hfk, hik⟩ := first_lt hf
      have hst := hide (show id = 0 ∨ ∃ j : Nat, j < n ∧ firstN X id n = (j : Int) from .inr ⟨k, hk, hfk⟩)
      rcases hao with h0 | hao
      · omega
      subst hao
      clear hnone hyes hz0 hf hfk hik
      replace hS := hide hS
      go_wp2_with fail
      go_fit (specStill_any _)
      rintro r w3 ⟨rfl, hb⟩
      replace R2 := hide (row_next hb (unhide R2))
      replace R4 := hide (row_next hb (unhide R4))
      replace HB := hide (below_two (unhide HB) hb)
      replace l2 := hide (show w.heap.size ≤ b2 ∧ b2 + 1 < w3.heap.size from ⟨(unhide l2).1, Nat.lt_of_lt_of_le (unhide l2).2 hb.size⟩)
      clear hb
      go_upto_region 4 with (refine mat_new rfl _ _ rfl _ still6 rfl rfl rfl ?_)
      have R6 := hide (new_row w3 (.cells (mC still6) 31))
      replace R2 := hide (row_next (al1_below w3 (.cells (mC still6) 31)) (unhide R2))
      replace R4 := hide (row_next (al1_below w3 (.cells (mC still6) 31)) (unhide R4))
      replace HB := hide (below_two (unhide HB) (al1_below w3 (.cells (mC still6) 31)))
      generalize w3.alloc (.cells (mC still6) 31) = W4 at R2 R4 R6 HB ⊢
      obtain ⟨b6, hb6⟩ : ∃ b, Hid (b = w3.heap.size) := ⟨_, rfl⟩
      rw [← unhide hb6] at R6 ⊢
      have l6 := hide (show w.heap.size ≤ b2 ∧ b2 + 1 < b6 by rw [unhide hb6]; exact unhide l2)
      clear hb6 l2
      go_upto_region 5 with fail
      go_loopw [7, 1] (fun i v u => ∃ (k f : Nat) (z : Int) (m : M6), k + f = 4 ∧ i = .int .i64 (k : Int) ∧ v = .int .i64 z ∧ Hid (upM X n f z m = R) ∧ Hid (z = 0 ∨ ∃ j : Nat, j < n ∧ firstN X z n = (j : Int)) ∧ Hid (u.heap[b2]? = some (.cells #[.slice (some ⟨b, o, none⟩) n cp] 26 (0, 0))) ∧ Hid (u.heap[b2 + 1]? = some (.cells (mC zero6) 31 (0, 0))) ∧ Hid (u.heap[b6]? = some (.cells (mC m) 31 (0, 0))) ∧ Hid (Below w.heap.size w u)) (fun i _ _ => 4 - (intOf i).toNat)
      case atStart => exact ⟨0, 4, id, still6, rfl, rfl, rfl, hR, hst, R2, R4, R6, HB⟩
      case round =>
        clear hR hst R2 R4 R6 HB
        obtain ⟨k, f, z, m, hkf, rfl, rfl, hR, hst, R2, R4, R6, HB⟩ := hrel
        by_cases hend : z = 0 ∨ f = 0
        · have hR' : Hid (R = (m, true)) := by
            rcases hend with h0 | h0
            · rw [← unhide hR, h0]; exact matM_z (unhide hS) f m
            · rw [← unhide hR, h0]; rfl
          have h6 := hide (mat_rng (unhide R6))
          have HB2 := hide (below_setRow (unhide HB) (show w.heap.size ≤ b2 + 1 by have := unhide l6; omega) (mC m))
          have R4s := hide (mrow_set (C := mC m) (unhide R4))
          by_cases h4 : f = 0
          · have hk4 : ¬ ((k : Int) < 4) := by omega
            clear hR hend hst
            (try go_wp2_with (first | with_reducible refine load_mat rfl _ rfl b6 0 rfl m (unhide h6) ?_ | refine mat_put rfl _ _ rfl (b2 + 1) (mC zero6) m rfl rfl (unhide R4) rfl ?_))
            generalize wr.setRow (b2 + 1) (mC m) = W2 at HB2 R4s ⊢
            obtain ⟨c0, c1, c2, c3, c4, c5⟩ := mcells (unhide R4s)
            go_wp2_with fail
            refine bodyPost_ret (v := .tuple #[.agg (mC m), .bool true]) (by simp [results, Tryz.results44, go_sem, c0, c1, c2, c3, c4, c5, mC]) rfl ⟨by rw [unhide hR'], ?_⟩
            exact unhide HB2
          · have hk4 : (k : Int) < 4 := by omega
            obtain rfl : z = 0 := hend.resolve_right h4
            clear hR hend hst
            (try go_wp2_with (first | with_reducible refine load_mat rfl _ rfl b6 0 rfl m (unhide h6) ?_ | refine mat_put rfl _ _ rfl (b2 + 1) (mC zero6) m rfl rfl (unhide R4) rfl ?_))
            generalize wr.setRow (b2 + 1) (mC m) = W2 at HB2 R4s ⊢
            obtain ⟨c0, c1, c2, c3, c4, c5⟩ := mcells (unhide R4s)
            go_wp2_with fail
            refine bodyPost_ret (v := .tuple #[.agg (mC m), .bool true]) (by simp [results, Tryz.results44, go_sem, c0, c1, c2, c3, c4, c5, mC]) rfl ⟨by rw [unhide hR'], ?_⟩
            exact unhide HB2
        · have hz0 : z ≠ 0 := fun e => hend (.inl e)
          obtain ⟨g, rfl⟩ : ∃ g, f = g + 1 := ⟨f - 1, by omega⟩
          obtain ⟨j, hj, hfj⟩ := (unhide hst).resolve_left hz0
          have hk4 : (k : Int) < 4 := by omega
          have hzb : (z != 0) = true := by simpa using hz0
          have hRy := hide (fun (hc : comp6k (X j).mat m = true) => (upM_yes hfj (f := g) hc).symm.trans (unhide hR))
          have hRn := hide (fun (hc : comp6k (X j).mat m = false) => (upM_no hfj (f := g) hc).symm.trans (unhide hR))
          have ENA := hide (fun u (hu : Below wr.heap.size wr u) => (unhide E2 z u (below_two (unhide HB) hu)).mono fun r w' h => show r = .returned (.int .i64 (j : Int)) ∧ Below u.heap.size u w' by rw [hfj] at h; exact h)
          have hnx := hide (show (X j).par = 0 ∨ ∃ i : Nat, i < n ∧ firstN X (X j).par n = (i : Int) by
            rcases above (unhide hS) hj with ⟨_, h⟩ | ⟨i, h1, h2, _⟩
            · exact .inl h
            · exact .inr ⟨i, h1, h2⟩)
          have hRX0 := hide (fun u (hu : Below wr.heap.size wr u) => show u.rangeAt b (o + j * 31) (ndC (X j) (A j)).toList by
            obtain ⟨b', o', e, h⟩ := (unhide NN u (below_two (unhide HB) hu) j hj).range
            cases e
            exact h)
          obtain ⟨xx, hxx⟩ : ∃ z, Hid (X j = z) := ⟨_, rfl⟩
          obtain ⟨ss, hss⟩ : ∃ z, Hid (A j = z) := ⟨_, rfl⟩
          rw [unhide hxx, unhide hss] at hRX0
          rw [unhide hxx] at hRy hRn hnx
          have hRX := hRX0
          have hj' : (j : Int) < (n : Int) := by omega
          have hS7 := hide (fun u (hu : Below wr.heap.size wr u) => show Hid (Below wr.heap.size wr u) ∧ u.cell? ⟨b2, 0, none⟩ = some (.slice (some ⟨b, o, none⟩) n cp) from ⟨hu, row1 (row_next hu (unhide R2))⟩)
          clear hR hst hend hfj hxx hss
          go_upto_region 7 with fail
          clear hzb hz0
          go_cut [8] (fun s u => ∃ q, s = .pointer (some ⟨q, 0, none⟩) ∧ Hid (wr.heap.size ≤ q) ∧ Hid (u.heap[q]? = some (.cells (ndC xx ss) 42 (0, 0))) ∧ Hid (Below wr.heap.size wr u))
          case first =>
            refine wp_region_held_drew (S := (fun u => Hid (Below wr.heap.size wr u) ∧ u.cell? ⟨b2, 0, none⟩ = some (.slice (some ⟨b, o, none⟩) n cp))) (by kernel_rfl) ?_ (fun hHeld => ?_)
            · exact unhide hS7 _ (Below.refl _ _).drew
            have HU := hide (show Below wr.heap.size wr wr.drew from (Below.refl _ _).drew)
            generalize wr.drew = V8 at HU hHeld ⊢
            refine wpAnyH_take (i := 0) (oi := { dst := some 30, op := Op.fieldAddr 26 (Operand.tmp 2) 0, type := 0, pos := "l17_shape.go:11", after := #[], guard := none }) (v := ?_) rfl (by kernel_rfl) (by kernel_rfl) (by kernel_rfl) (fun _ _ _ h => h) (Or.inl ⟨by rfl, ?_⟩) (by assumption) ?_
            rotate_left
            · intro w hSw; (try dsimp only at hSw); go_simp <;> with_reducible rfl
            try simp only [Act.put, List.setIfInBounds_toArray, List.set_cons_zero, List.set_cons_succ]
            refine wpAnyH_take (i := 1) (oi := { dst := some 31, op := Op.load 24 (Operand.tmp 30), type := 24, pos := "l17_shape.go:11", after := #[{ on := 0, ground := Ground.data }], guard := none }) (v := ?_) rfl (by kernel_rfl) (by kernel_rfl) (by kernel_rfl) (fun _ _ _ h => h) (Or.inl ⟨by rfl, ?_⟩) (by assumption) ?_
            rotate_left
            · intro w hSw; (try dsimp only at hSw); go_simp <;> with_reducible rfl
            try simp only [Act.put, List.setIfInBounds_toArray, List.set_cons_zero, List.set_cons_succ]
            refine wpAnyH_take (i := 2) (oi := { dst := some 32, op := Op.load 26 (Operand.tmp 2), type := 26, pos := "l17_shape.go:11", after := #[], guard := none }) (v := ?_) rfl (by kernel_rfl) (by kernel_rfl) (by kernel_rfl) (fun _ _ _ h => h) (Or.inl ⟨by rfl, ?_⟩) (by assumption) ?_
            rotate_left
            · intro w hSw; (try dsimp only at hSw); go_simp <;> with_reducible rfl
            try simp only [Act.put, List.setIfInBounds_toArray, List.set_cons_zero, List.set_cons_succ]
            refine wpAnyH_take (i := 3) (oi := { dst := some 33, op := Op.move (Operand.tmp 1), type := 3, pos := "l17_shape.go:11", after := #[], guard := none }) (v := ?_) rfl (by kernel_rfl) (by kernel_rfl) (by kernel_rfl) (fun _ _ _ h => h) (Or.inl ⟨by rfl, ?_⟩) (by assumption) ?_
            rotate_left
            · intro w hSw; (try dsimp only at hSw); go_simp <;> with_reducible rfl
            try simp only [Act.put, List.setIfInBounds_toArray, List.set_cons_zero, List.set_cons_succ]
            refine wpAnyH_ready (rs := [4, 7]) (by kernel_rfl) (by simp) ?_
            refine AllReadyH.cons (o := { dst := some 34, op := Op.call { callee := Callee.value (Operand.func 32), args := #[Operand.tmp 32, Operand.tmp 33], argTypes := #[26, 3] }, type := 3, pos := "l17_shape.go:11", after := #[{ on := 2, ground := Ground.data }, { on := 3, ground := Ground.data }], guard := none }) rfl (fun K hK => ?_) ?_
            · go_simp
              (go_at_call 32; go_fit (unhide ENA _ (unhide HU)); rintro r VA ⟨rfl, hb9⟩)
              replace HU := hide (below_two (unhide HU) hb9)
              clear hb9
              refine hK.out _ _ ?_ (fun hHeld => ?_)
              · exact unhide hS7 _ (unhide HU)
              clear hK K
              try simp only [Act.put, List.setIfInBounds_toArray, List.set_cons_zero, List.set_cons_succ]
              refine wpAnyH_take (i := 5) (oi := { dst := some 35, op := Op.indexAddr 24 (Operand.tmp 31) (Operand.tmp 34), type := 0, pos := "l17_shape.go:11", after := #[{ on := 1, ground := Ground.data }, { on := 4, ground := Ground.data }], guard := none }) (v := ?_) rfl (by kernel_rfl) (by kernel_rfl) (by kernel_rfl) (fun _ _ _ h => h) (Or.inl ⟨by rfl, ?_⟩) (by assumption) ?_
              rotate_left
              · intro w hSw; (try dsimp only at hSw); go_simp <;> with_reducible rfl
              try simp only [Act.put, List.setIfInBounds_toArray, List.set_cons_zero, List.set_cons_succ]
              refine wpAnyH_take (i := 6) (oi := { dst := some 36, op := Op.load 42 (Operand.tmp 35), type := 42, pos := "l17_shape.go:11", after := #[{ on := 5, ground := Ground.data }], guard := none }) (v := .agg (ndC xx ss)) rfl (by kernel_rfl) (by kernel_rfl) (by kernel_rfl) (fun _ _ _ h => h) (ynode rfl _ rfl b (o + j * 31) rfl xx ss (fun u hu => unhide hRX u (unhide hu.1))) (by assumption) ?_
              try simp only [Act.put, List.setIfInBounds_toArray, List.set_cons_zero, List.set_cons_succ]
              refine wpAnyH_ready (rs := [7]) (by kernel_rfl) (by simp) ?_
              refine AllReadyH.cons (o := { dst := some 8, op := Op.alloc 42, type := 0, pos := "l17_shape.go:11", after := #[], guard := none }) rfl (fun K hK => ?_) AllReadyH.nil
              refine nstep_alloc rfl rfl (fun Z hZ => ?_)
              have R8 := hide (new_row VA (.cells Z 42))
              have l8 := hide (show wr.heap.size ≤ VA.heap.size from (unhide HU).size)
              replace HU := hide (below_two (unhide HU) (al1_below VA (.cells Z 42)))
              generalize VA.alloc (.cells Z 42) = VB at HU R8 ⊢
              generalize VA.heap.size = b8 at R8 l8 ⊢
              refine hK.out _ _ ?_ (fun hHeld => ?_)
              · exact unhide hS7 _ (unhide HU)
              clear hK K
              try simp only [Act.put, List.setIfInBounds_toArray, List.set_cons_zero, List.set_cons_succ]
              refine wpAnyH_ready (rs := [8]) (by kernel_rfl) (by simp) ?_
              refine AllReadyH.cons (o := { dst := none, op := Op.store 42 (Operand.tmp 8) (Operand.tmp 36), type := 0, pos := "l17_shape.go:11", after := #[{ on := 7, ground := Ground.data }, { on := 6, ground := Ground.data }, { on := 4, ground := Ground.chain }, { on := 0, ground := Ground.phase }, { on := 1, ground := Ground.phase }, { on := 2, ground := Ground.phase }, { on := 3, ground := Ground.phase }, { on := 4, ground := Ground.phase }, { on := 5, ground := Ground.phase }, { on := 6, ground := Ground.phase }, { on := 7, ground := Ground.phase }], guard := none }) rfl (fun K hK => ?_) AllReadyH.nil
              refine nstep_store rfl _ _ rfl rfl rfl (unhide R8) hZ ?_
              replace R8 := hide (mrow_set (C := ndC xx ss) (unhide R8))
              replace HU := hide (below_setRow (unhide HU) (unhide l8) (ndC xx ss))
              generalize VB.setRow b8 (ndC xx ss) = WL at R8 HU ⊢
              refine hK.out _ _ ?_ (fun hHeld => ?_)
              · exact unhide hS7 _ (unhide HU)
              clear hK K
              try simp only [Act.put]
              refine wpAnyH_done (by kernel_rfl) ?_ _
              go_wp2_with fail
              go_meet
              exact ⟨b8, rfl, l8, R8, HU⟩
            refine AllReadyH.cons (o := { dst := some 8, op := Op.alloc 42, type := 0, pos := "l17_shape.go:11", after := #[], guard := none }) rfl (fun K hK => ?_) ?_
            · refine nstep_alloc rfl rfl (fun Z hZ => ?_)
              have R8 := hide (new_row V8 (.cells Z 42))
              have l8 := hide (show wr.heap.size ≤ V8.heap.size from (unhide HU).size)
              replace HU := hide (below_two (unhide HU) (al1_below V8 (.cells Z 42)))
              generalize V8.alloc (.cells Z 42) = VA at HU R8 ⊢
              generalize V8.heap.size = b8 at R8 l8 ⊢
              refine hK.out _ _ ?_ (fun hHeld => ?_)
              · exact unhide hS7 _ (unhide HU)
              clear hK K
              try simp only [Act.put, List.setIfInBounds_toArray, List.set_cons_zero, List.set_cons_succ]
              refine wpAnyH_ready (rs := [4]) (by kernel_rfl) (by simp) ?_
              refine AllReadyH.cons (o := { dst := some 34, op := Op.call { callee := Callee.value (Operand.func 32), args := #[Operand.tmp 32, Operand.tmp 33], argTypes := #[26, 3] }, type := 3, pos := "l17_shape.go:11", after := #[{ on := 2, ground := Ground.data }, { on := 3, ground := Ground.data }], guard := none }) rfl (fun K hK => ?_) AllReadyH.nil
              go_simp
              (go_at_call 32; go_fit (unhide ENA _ (unhide HU)); rintro r VB ⟨rfl, hb9⟩)
              replace R8 := hide (row_next hb9 (unhide R8))
              replace HU := hide (below_two (unhide HU) hb9)
              clear hb9
              refine hK.out _ _ ?_ (fun hHeld => ?_)
              · exact unhide hS7 _ (unhide HU)
              clear hK K
              try simp only [Act.put, List.setIfInBounds_toArray, List.set_cons_zero, List.set_cons_succ]
              refine wpAnyH_take (i := 5) (oi := { dst := some 35, op := Op.indexAddr 24 (Operand.tmp 31) (Operand.tmp 34), type := 0, pos := "l17_shape.go:11", after := #[{ on := 1, ground := Ground.data }, { on := 4, ground := Ground.data }], guard := none }) (v := ?_) rfl (by kernel_rfl) (by kernel_rfl) (by kernel_rfl) (fun _ _ _ h => h) (Or.inl ⟨by rfl, ?_⟩) (by assumption) ?_
              rotate_left
              · intro w hSw; (try dsimp only at hSw); go_simp <;> with_reducible rfl
              try simp only [Act.put, List.setIfInBounds_toArray, List.set_cons_zero, List.set_cons_succ]
              refine wpAnyH_take (i := 6) (oi := { dst := some 36, op := Op.load 42 (Operand.tmp 35), type := 42, pos := "l17_shape.go:11", after := #[{ on := 5, ground := Ground.data }], guard := none }) (v := .agg (ndC xx ss)) rfl (by kernel_rfl) (by kernel_rfl) (by kernel_rfl) (fun _ _ _ h => h) (ynode rfl _ rfl b (o + j * 31) rfl xx ss (fun u hu => unhide hRX u (unhide hu.1))) (by assumption) ?_
              try simp only [Act.put, List.setIfInBounds_toArray, List.set_cons_zero, List.set_cons_succ]
              refine wpAnyH_ready (rs := [8]) (by kernel_rfl) (by simp) ?_
              refine AllReadyH.cons (o := { dst := none, op := Op.store 42 (Operand.tmp 8) (Operand.tmp 36), type := 0, pos := "l17_shape.go:11", after := #[{ on := 7, ground := Ground.data }, { on := 6, ground := Ground.data }, { on := 4, ground := Ground.chain }, { on := 0, ground := Ground.phase }, { on := 1, ground := Ground.phase }, { on := 2, ground := Ground.phase }, { on := 3, ground := Ground.phase }, { on := 4, ground := Ground.phase }, { on := 5, ground := Ground.phase }, { on := 6, ground := Ground.phase }, { on := 7, ground := Ground.phase }], guard := none }) rfl (fun K hK => ?_) AllReadyH.nil
              refine nstep_store rfl _ _ rfl rfl rfl (unhide R8) hZ ?_
              replace R8 := hide (mrow_set (C := ndC xx ss) (unhide R8))
              replace HU := hide (below_setRow (unhide HU) (unhide l8) (ndC xx ss))
              generalize VB.setRow b8 (ndC xx ss) = WL at R8 HU ⊢
              refine hK.out _ _ ?_ (fun hHeld => ?_)
              · exact unhide hS7 _ (unhide HU)
              clear hK K
              try simp only [Act.put]
              refine wpAnyH_done (by kernel_rfl) ?_ _
              go_wp2_with fail
              go_meet
              exact ⟨b8, rfl, l8, R8, HU⟩
            exact AllReadyH.nil
          case rest =>
          obtain ⟨b8, rfl, l8, R8, HU⟩ := hcut
          replace R2 := hide (row_next (unhide HU) (unhide R2))
          replace R4 := hide (row_next (unhide HU) (unhide R4))
          replace l8 := hide (show b6 < b8 from Nat.lt_of_lt_of_le (heap_lt (unhide R6)) (unhide l8))
          replace R6 := hide (row_next (unhide HU) (unhide R6))
          replace HB := hide (below_two (unhide HB) (unhide HU))
          clear HU hRX hS7 ENA hRX0
          obtain ⟨M, hM⟩ : ∃ z, Hid (xx.mat = z) := ⟨_, rfl⟩
          rw [unhide hM] at hRy hRn
          have h8 := hide (show wc.rangeAt b8 3 (mC M).toList by
            rw [← unhide hM]
            have h := nd_mat (o := 0) (mat_rng (unhide R8))
            exact h)
          have h6 := hide (mat_rng (unhide R6))
          go_wp2_with (first | with_reducible refine load_mat rfl _ rfl b8 3 rfl M (unhide h8) ?_ | with_reducible refine load_mat rfl _ rfl b6 0 rfl m (unhide h6) ?_)
          go_fit (specCompose_m M m _)
          rintro r w5 ⟨rfl, hb⟩
          replace R2 := hide (row_next hb (unhide R2))
          replace R4 := hide (row_next hb (unhide R4))
          replace R6 := hide (row_next hb (unhide R6))
          replace R8 := hide (row_next hb (unhide R8))
          replace HB := hide (below_two (unhide HB) hb)
          clear hb h8 h6
          go_upto_region 9 with (refine mat_new rfl _ _ rfl _ (comp6 M m) rfl rfl rfl ?_)
          have R9 := hide (new_row w5 (.cells (mC (comp6 M m)) 31))
          have hb := al1_below w5 (.cells (mC (comp6 M m)) 31)
          replace R2 := hide (row_next hb (unhide R2))
          replace R4 := hide (row_next hb (unhide R4))
          replace R6 := hide (row_next hb (unhide R6))
          replace R8 := hide (row_next hb (unhide R8))
          replace HB := hide (below_two (unhide HB) hb)
          clear hb
          generalize w5.alloc (.cells (mC (comp6 M m)) 31) = W5 at R2 R4 R6 R8 R9 HB ⊢
          generalize w5.heap.size = b9 at R9 ⊢
          cases hc : comp6k M m with
          | false =>
            have hR := hide (unhide hRn hc).symm
            clear hRn hRy hc
            have HB2 := hide (below_setRow (unhide HB) (show w.heap.size ≤ b2 + 1 by have := unhide l6; omega) (mC zero6))
            have R4s := hide (mrow_set (C := mC zero6) (unhide R4))
            (try go_wp2_with (refine mat_put rfl _ _ rfl (b2 + 1) (mC zero6) zero6 rfl rfl (unhide R4) rfl ?_))
            generalize W5.setRow (b2 + 1) (mC zero6) = W2 at HB2 R4s ⊢
            obtain ⟨c0, c1, c2, c3, c4, c5⟩ := mcells (unhide R4s)
            go_wp2_with fail
            refine bodyPost_ret (v := .tuple #[.agg (mC zero6), .bool false]) (by simp [results, Tryz.results44, go_sem, c0, c1, c2, c3, c4, c5, mC]) rfl ⟨by rw [unhide hR], ?_⟩
            exact unhide HB2
          | true =>
            have hR := hide (unhide hRy hc)
            clear hRn hRy hc
            have h9 := hide (mat_rng (unhide R9))
            have HB2 := hide (below_setRow (unhide HB) (show w.heap.size ≤ b6 by have := unhide l6; omega) (mC (comp6 M m)))
            have R6s := hide (mrow_set (C := mC (comp6 M m)) (unhide R6))
            have R2s := hide ((mrow_other (C := mC (comp6 M m)) (u := W5) (show b2 ≠ b6 by have := unhide l6; omega)).trans (unhide R2))
            have R4s := hide ((mrow_other (C := mC (comp6 M m)) (u := W5) (show b2 + 1 ≠ b6 by have := unhide l6; omega)).trans (unhide R4))
            have R8s := hide ((mrow_other (C := mC (comp6 M m)) (u := W5) (show b8 ≠ b6 by have := unhide l8; omega)).trans (unhide R8))
            go_upto_region 12 with (first | with_reducible refine load_mat rfl _ rfl b9 0 rfl (comp6 M m) (unhide h9) ?_ | refine mat_put rfl _ _ rfl b6 (mC m) (comp6 M m) rfl rfl (unhide R6) rfl ?_)
            clear h9 R2 R4 R6 R8 R9 HB
            generalize W5.setRow b6 (mC (comp6 M m)) = W7 at HB2 R6s R2s R4s R8s ⊢
            have cp8 := (nheads (unhide R8s)).2
            go_wp2_with fail
            go_roundw
            case rel => exact ⟨k + 1, g, xx.par, _, by omega, by go_num, rfl, hR, hnx, R2s, R4s, R6s, HB2⟩
            case measure => simp [intOf]; omega
end Go.Proofs.YtfnbemmlafmjlaaGreat

/-
  ClipOf of both sides. (By clipi.py.)
-/
namespace Go.Proofs.YtfnbemmlafmjlaaGreat
open Go.RowKit
set_option linter.unusedVariables false

noncomputable def clipL (X : Nat → Nd) (n : Nat) (id : Int) : List (List Pt) := if (matM X n id).2 = true then linesM (matM X n id).1 (X (firstN X id n).toNat).wf (X (firstN X id n).toNat).mv (X (firstN X id n).toNat).qf (X (firstN X id n).toNat).mp else []
theorem clip_no {X : Nat → Nd} {n : Nat} {id : Int} (h : (matM X n id).2 = false) : clipL X n id = [] := by unfold clipL; rw [if_neg (by rw [h]; exact Bool.false_ne_true)]
theorem mat_found {X : Nat → Nd} {n : Nat} {id : Int} (h : (matM X n id).2 = true) : ∃ k : Nat, k < n ∧ firstN X id n = (k : Int) := by
  by_cases hf : firstN X id n < 0
  · rw [matM_none hf] at h; cases h
  · obtain ⟨k, hk, e, _⟩ := first_lt hf
    exact ⟨k, hk, e⟩
theorem clip_yes {X : Nat → Nd} {n : Nat} {id : Int} (h : (matM X n id).2 = true) : ∃ k : Nat, k < n ∧ firstN X id n = (k : Int) ∧ clipL X n id = linesM (matM X n id).1 (X k).wf (X k).mv (X k).qf (X k).mp := by
  obtain ⟨k, hk, e⟩ := mat_found h
  refine ⟨k, hk, e, ?_⟩
  unfold clipL
  rw [if_pos h, e, Int.toNat_natCast]
theorem clip_small (X : Nat → Nd) (n : Nat) (id : Int) : (clipL X n id).length ≤ 100 ∧ ∀ l ∈ clipL X n id, l.length ≤ 1000 := by
  unfold clipL
  split
  · exact linesM_small ..
  · simp

set_option maxHeartbeats 8000000 in
set_option maxRecDepth 100000 in
theorem implClipOf_any (X : Nat → Nd) (A : Nat → Na) (ao : Option Addr) (n cp : Nat) (hn : n ≤ 1048576) (hs : ∀ i, i < n → (X i).Small) (hk : ∀ i, i < n → Caps (X i) (A i)) (hw1 : ∀ i, i < n → (Lit.int .i64 (X i).id).wf = true) (hw2 : ∀ i, i < n → (Lit.int .i64 (X i).par).wf = true) (id : Int) (hid : (Lit.int .i64 id).wf = true) (w : World) (P : ∀ i, i < n → NrAt w ao i (X i) (A i)) :
    Calls Tryz.prog 63 #[.agg #[.slice ao n cp], .int .i64 id] w fun r w' => ∃ v, r = .returned v ∧ LinesV w' w.heap.size v (clipL X n id) ∧ Below w.heap.size w w' := by
  have E1 := hide (fun u (hu : Below w.heap.size w u) => implMatOf_any X A ao n cp hn hs hw1 hw2 id hid u (fun i hi => (P i hi).next hu))
  have E2 := hide (fun u (hu : Below w.heap.size w u) => implNodeAt_any X A ao n cp hn id u (fun i hi => (P i hi).next hu))
  have NN := hide (fun u (hu : Below w.heap.size w u) i (hi : i < n) => (P i hi).next hu)
  have hno := hide (fun (h : (matM X n id).2 = false) => clip_no h)
  have hyes := hide (fun (h : (matM X n id).2 = true) => clip_yes h)
  replace hs := hide hs
  replace hk := hide hk
  obtain ⟨m1, y1, hR⟩ : ∃ m y, Hid (matM X n id = (m, y)) := ⟨_, _, rfl⟩
  rw [unhide hR] at E1 hno hyes
  dsimp only at E1 hno hyes
  obtain ⟨L, hL⟩ : ∃ L, Hid (clipL X n id = L) := ⟨_, rfl⟩
  rw [unhide hL] at hno hyes ⊢
  clear P hR hL
  go_enter Tryz.func63, Tryz.ntmps63
  go_upto_region 1 with fail
  have R2 := hide (new_row w (.cells #[.slice ao n cp] 26))
  have HB := hide (al1_below w (.cells #[.slice ao n cp] 26))
  generalize w.alloc (.cells #[.slice ao n cp] 26) = W at R2 HB ⊢
  obtain ⟨b2, hb2⟩ : ∃ b, Hid (b = w.heap.size) := ⟨_, rfl⟩
  rw [← unhide hb2] at R2 ⊢
  clear hb2
  have c2 := row1 (unhide R2)
  go_wp2_with fail
  go_fit (unhide E1 _ (unhide HB))
  rintro r w1 ⟨rfl, hb⟩
  replace R2 := hide (row_next hb (unhide R2))
  replace HB := hide (below_two (unhide HB) hb)
  clear hb c2 E1
  go_upto_region 2 with (refine mat_new rfl _ _ rfl _ m1 rfl rfl rfl ?_)
  have R5 := hide (new_row w1 (.cells (mC m1) 31))
  replace R2 := hide (row_next (al1_below w1 (.cells (mC m1) 31)) (unhide R2))
  replace HB := hide (below_two (unhide HB) (al1_below w1 (.cells (mC m1) 31)))
  generalize w1.alloc (.cells (mC m1) 31) = Y at R2 R5 HB ⊢
  generalize w1.heap.size = b5 at R5 ⊢
  cases y1 with
  | false =>
    have hX := hide (unhide hno rfl)
    have hE := hide (clip_empty (unhide HB))
    go_wp2_with fail
    go_ret
    exact ⟨_, rfl, by rw [unhide hX]; exact unhide hE, below_new _ (unhide HB) (Nat.le_refl _)⟩
  | true =>
    obtain ⟨k, hk', hf, hX⟩ := unhide hyes rfl
    have hki : (k : Int) < (n : Int) := by omega
    have ENA := hide (fun u (hu : Below Y.heap.size Y u) => (unhide E2 u (below_two (unhide HB) hu)).mono fun r w' h => show r = .returned (.int .i64 (k : Int)) ∧ Below u.heap.size u w' by rw [hf] at h; exact h)
    obtain ⟨b, o, hao, _⟩ := (unhide NN _ (unhide HB) k hk').range
    subst hao
    have hRX := hide (fun u (hu : Below Y.heap.size Y u) => show u.rangeAt b (o + k * 31) (ndC (X k) (A k)).toList by
      obtain ⟨b', o', e, h⟩ := (unhide NN u (below_two (unhide HB) hu) k hk').range
      cases e
      exact h)
    have HIN := hide (fun u (hu : Below Y.heap.size Y u) => (unhide NN u (below_two (unhide HB) hu) k hk').inn)
    have hsm := hide (unhide hs k hk')
    have hcp := hide (unhide hk k hk')
    obtain ⟨xx, hxx⟩ : ∃ z, Hid (X k = z) := ⟨_, rfl⟩
    obtain ⟨ss, hss⟩ : ∃ z, Hid (A k = z) := ⟨_, rfl⟩
    rw [unhide hxx] at hRX HIN hsm hcp hX
    rw [unhide hss] at hRX HIN hcp
    have hL0 := hide hX.symm
    have ELB := hide (fun u (hu : Below Y.heap.size Y u) => implLinesBy_any m1 xx.wf xx.qf ss.bv ss.bp xx.mv ss.dv xx.mp ss.dp (caps_none (unhide hcp).cv) (unhide hsm).mv (unhide hsm).mp u (unhide HIN _ hu).cv (unhide HIN _ hu).cp)
    rw [unhide hL0] at ELB
    have hR5 := hide (fun u (hu : Below Y.heap.size Y u) => mat_rng (row_next hu (unhide R5)))
    have hS4 := hide (fun u (hu : Below Y.heap.size Y u) => show Hid (Below Y.heap.size Y u) ∧ u.cell? ⟨b2, 0, none⟩ = some (.slice (some ⟨b, o, none⟩) n cp) ∧ u.cell? ⟨b, o + k * 31 + 29, none⟩ = some (.slice ss.bv xx.mv ss.dv) ∧ u.cell? ⟨b, o + k * 31 + 30, none⟩ = some (.slice ss.bp xx.mp ss.dp) from ⟨hu, row1 (row_next hu (unhide R2)), (unhide hRX u hu) 29 _ rfl, (unhide hRX u hu) 30 _ rfl⟩)
    have hYs := hide (unhide HB).size
    clear hX hf hxx hss hno hyes E2 NN hs hk hsm hcp HIN hRX
    go_upto_region 4 with fail
    refine wp_region_held_drew (S := (fun u => Hid (Below Y.heap.size Y u) ∧ u.cell? ⟨b2, 0, none⟩ = some (.slice (some ⟨b, o, none⟩) n cp) ∧ u.cell? ⟨b, o + k * 31 + 29, none⟩ = some (.slice ss.bv xx.mv ss.dv) ∧ u.cell? ⟨b, o + k * 31 + 30, none⟩ = some (.slice ss.bp xx.mp ss.dp))) (by kernel_rfl) ?_ (fun hHeld => ?_)
    · exact unhide hS4 _ (Below.refl _ _).drew
    refine wpAnyH_take (i := 0) (oi := { dst := some 16, op := Op.fieldAddr 26 (Operand.tmp 2) 0, type := 0, pos := "l17_shape.go:31", after := #[], guard := none }) (v := ?_) rfl (by kernel_rfl) (by kernel_rfl) (by kernel_rfl) (fun _ _ _ h => h) (Or.inl ⟨by rfl, ?_⟩) (by assumption) ?_
    rotate_left
    · intro w hSw; (try dsimp only at hSw); go_simp <;> with_reducible rfl
    try simp only [Act.put, List.setIfInBounds_toArray, List.set_cons_zero, List.set_cons_succ]
    refine wpAnyH_take (i := 1) (oi := { dst := some 17, op := Op.load 24 (Operand.tmp 16), type := 24, pos := "l17_shape.go:31", after := #[{ on := 0, ground := Ground.data }], guard := none }) (v := ?_) rfl (by kernel_rfl) (by kernel_rfl) (by kernel_rfl) (fun _ _ _ h => h) (Or.inl ⟨by rfl, ?_⟩) (by assumption) ?_
    rotate_left
    · intro w hSw; (try dsimp only at hSw); go_simp <;> with_reducible rfl
    try simp only [Act.put, List.setIfInBounds_toArray, List.set_cons_zero, List.set_cons_succ]
    refine wpAnyH_take (i := 2) (oi := { dst := some 18, op := Op.load 26 (Operand.tmp 2), type := 26, pos := "l17_shape.go:31", after := #[], guard := none }) (v := ?_) rfl (by kernel_rfl) (by kernel_rfl) (by kernel_rfl) (fun _ _ _ h => h) (Or.inl ⟨by rfl, ?_⟩) (by assumption) ?_
    rotate_left
    · intro w hSw; (try dsimp only at hSw); go_simp <;> with_reducible rfl
    try simp only [Act.put, List.setIfInBounds_toArray, List.set_cons_zero, List.set_cons_succ]
    refine wpAnyH_take (i := 3) (oi := { dst := some 19, op := Op.move (Operand.tmp 1), type := 3, pos := "l17_shape.go:31", after := #[], guard := none }) (v := ?_) rfl (by kernel_rfl) (by kernel_rfl) (by kernel_rfl) (fun _ _ _ h => h) (Or.inl ⟨by rfl, ?_⟩) (by assumption) ?_
    rotate_left
    · intro w hSw; (try dsimp only at hSw); go_simp <;> with_reducible rfl
    try simp only [Act.put, List.setIfInBounds_toArray, List.set_cons_zero, List.set_cons_succ]
    refine wpAnyH_take (i := 8) (oi := { dst := some 24, op := Op.load 31 (Operand.tmp 5), type := 31, pos := "l17_shape.go:31", after := #[], guard := none }) (v := .agg (mC m1)) rfl (by kernel_rfl) (by kernel_rfl) (by kernel_rfl) (fun _ _ _ h => h) (yields_mat rfl _ rfl b5 0 rfl m1 (fun u hu => unhide hR5 u (unhide hu.1))) (by assumption) ?_
    try simp only [Act.put, List.setIfInBounds_toArray, List.set_cons_zero, List.set_cons_succ]
    refine wpAnyH_ready (rs := [4]) (by kernel_rfl) (by simp) ?_
    refine AllReadyH.cons (o := { dst := some 20, op := Op.call { callee := Callee.value (Operand.func 28), args := #[Operand.tmp 18, Operand.tmp 19], argTypes := #[26, 3] }, type := 3, pos := "l17_shape.go:31", after := #[{ on := 2, ground := Ground.data }, { on := 3, ground := Ground.data }], guard := none }) rfl (fun K hK => ?_) AllReadyH.nil
    go_simp
    (first | (go_at_call 28; go_fit (unhide ENA _ (unhide hHeld.1)); rintro r wn ⟨rfl, hbn⟩; have sn := unhide hS4 _ (below_two (unhide hHeld.1) hbn)) | (go_at_call 100; go_fit (unhide ELB _ (unhide hHeld.1)); rintro r wn ⟨v, rfl, hL, hbn⟩; replace hL := hide (hL.low (unhide hHeld.1).size); have sn := unhide hS4 _ (below_two (unhide hHeld.1) hbn)))
    refine hK.out _ _ ?_ (fun hHeld => ?_)
    · with_reducible exact sn
    clear hK K
    try simp only [Act.put, List.setIfInBounds_toArray, List.set_cons_zero, List.set_cons_succ]
    refine wpAnyH_take (i := 5) (oi := { dst := some 21, op := Op.indexAddr 24 (Operand.tmp 17) (Operand.tmp 20), type := 0, pos := "l17_shape.go:31", after := #[{ on := 1, ground := Ground.data }, { on := 4, ground := Ground.data }], guard := none }) (v := ?_) rfl (by kernel_rfl) (by kernel_rfl) (by kernel_rfl) (fun _ _ _ h => h) (Or.inl ⟨by rfl, ?_⟩) (by assumption) ?_
    rotate_left
    · intro w hSw; (try dsimp only at hSw); go_simp <;> with_reducible rfl
    try simp only [Act.put, List.setIfInBounds_toArray, List.set_cons_zero, List.set_cons_succ]
    refine wpAnyH_take (i := 6) (oi := { dst := some 22, op := Op.fieldAddr 42 (Operand.tmp 21) 11, type := 0, pos := "l17_shape.go:31", after := #[{ on := 5, ground := Ground.data }], guard := none }) (v := ?_) rfl (by kernel_rfl) (by kernel_rfl) (by kernel_rfl) (fun _ _ _ h => h) (Or.inl ⟨by rfl, ?_⟩) (by assumption) ?_
    rotate_left
    · intro w hSw; (try dsimp only at hSw); go_simp <;> with_reducible rfl
    try simp only [Act.put, List.setIfInBounds_toArray, List.set_cons_zero, List.set_cons_succ]
    refine wpAnyH_take (i := 7) (oi := { dst := some 23, op := Op.load 34 (Operand.tmp 22), type := 34, pos := "l17_shape.go:31", after := #[{ on := 6, ground := Ground.data }], guard := none }) (v := ?_) rfl (by kernel_rfl) (by kernel_rfl) (by kernel_rfl) (fun _ _ _ h => h) (Or.inl ⟨by rfl, ?_⟩) (by assumption) ?_
    rotate_left
    · intro w hSw; (try dsimp only at hSw); go_simp <;> with_reducible rfl
    try simp only [Act.put, List.setIfInBounds_toArray, List.set_cons_zero, List.set_cons_succ]
    refine wpAnyH_ready (rs := [9]) (by kernel_rfl) (by simp) ?_
    refine AllReadyH.cons (o := { dst := some 25, op := Op.call { callee := Callee.value (Operand.func 100), args := #[Operand.tmp 23, Operand.tmp 24], argTypes := #[34, 31] }, type := 61, pos := "l17_shape.go:31", after := #[{ on := 7, ground := Ground.data }, { on := 8, ground := Ground.data }, { on := 4, ground := Ground.chain }], guard := none }) rfl (fun K hK => ?_) AllReadyH.nil
    go_simp
    (first | (go_at_call 28; go_fit (unhide ENA _ (unhide hHeld.1)); rintro r wn ⟨rfl, hbn⟩; have sn := unhide hS4 _ (below_two (unhide hHeld.1) hbn)) | (go_at_call 100; go_fit (unhide ELB _ (unhide hHeld.1)); rintro r wn ⟨v, rfl, hL, hbn⟩; replace hL := hide (hL.low (unhide hHeld.1).size); have sn := unhide hS4 _ (below_two (unhide hHeld.1) hbn)))
    refine hK.out _ _ ?_ (fun hHeld => ?_)
    · with_reducible exact sn
    clear hK K
    try simp only [Act.put, List.setIfInBounds_toArray, List.set_cons_zero, List.set_cons_succ]
    refine wpAnyH_take (i := 10) (oi := { dst := some 4, op := Op.assign (Operand.tmp 25), type := 61, pos := "l17_shape.go:31", after := #[{ on := 9, ground := Ground.data }, { on := 9, ground := Ground.chain }, { on := 0, ground := Ground.phase }, { on := 1, ground := Ground.phase }, { on := 2, ground := Ground.phase }, { on := 3, ground := Ground.phase }, { on := 4, ground := Ground.phase }, { on := 5, ground := Ground.phase }, { on := 6, ground := Ground.phase }, { on := 7, ground := Ground.phase }, { on := 8, ground := Ground.phase }, { on := 9, ground := Ground.phase }], guard := none }) (v := ?_) rfl (by kernel_rfl) (by kernel_rfl) (by kernel_rfl) (fun _ _ _ h => h) (Or.inl ⟨by rfl, ?_⟩) (by assumption) ?_
    rotate_left
    · intro w hSw; (try dsimp only at hSw); go_simp <;> with_reducible rfl
    try simp only [Act.put, List.setIfInBounds_toArray, List.set_cons_zero, List.set_cons_succ]
    refine wpAnyH_done (by kernel_rfl) ?_ _
    have BZ := hide (below_two (unhide HB) (unhide hHeld.1))
    have hL2 := hide ((unhide hL).low (unhide hYs))
    clear hHeld sn hL
    go_wp2_with fail
    go_ret
    exact ⟨_, rfl, unhide hL2, unhide BZ⟩

set_option maxHeartbeats 8000000 in
set_option maxRecDepth 100000 in
theorem specClipOf_any (X : Nat → Nd) (A : Nat → Na) (ao : Option Addr) (n cp : Nat) (hn : n ≤ 1048576) (hs : ∀ i, i < n → (X i).Small) (hk : ∀ i, i < n → Caps (X i) (A i)) (id : Int) (w : World) (P : ∀ i, i < n → NrAt w ao i (X i) (A i)) :
    Calls Tryz.prog 36 #[.agg #[.slice ao n cp], .int .i64 id] w fun r w' => ∃ v, r = .returned v ∧ LinesV w' w.heap.size v (clipL X n id) ∧ Below w.heap.size w w' := by
  have E1 := hide (fun u (hu : Below w.heap.size w u) => specMatOf_any X A ao n cp hn hs id u (fun i hi => (P i hi).next hu))
  have E2 := hide (fun u (hu : Below w.heap.size w u) => specNodeAt_any X A ao n cp hn id u (fun i hi => (P i hi).next hu))
  have NN := hide (fun u (hu : Below w.heap.size w u) i (hi : i < n) => (P i hi).next hu)
  have hno := hide (fun (h : (matM X n id).2 = false) => clip_no h)
  have hyes := hide (fun (h : (matM X n id).2 = true) => clip_yes h)
  replace hs := hide hs
  replace hk := hide hk
  obtain ⟨m1, y1, hR⟩ : ∃ m y, Hid (matM X n id = (m, y)) := ⟨_, _, rfl⟩
  rw [unhide hR] at E1 hno hyes
  dsimp only at E1 hno hyes
  obtain ⟨L, hL⟩ : ∃ L, Hid (clipL X n id = L) := ⟨_, rfl⟩
  rw [unhide hL] at hno hyes ⊢
  clear P hR hL
  go_enter Tryz.func36, Tryz.ntmps36
  go_upto_region 1 with fail
  have R2 := hide (new_row w (.cells #[.slice ao n cp] 26))
  have HB := hide (al1_below w (.cells #[.slice ao n cp] 26))
  generalize w.alloc (.cells #[.slice ao n cp] 26) = W at R2 HB ⊢
  obtain ⟨b2, hb2⟩ : ∃ b, Hid (b = w.heap.size) := ⟨_, rfl⟩
  rw [← unhide hb2] at R2 ⊢
  clear hb2
  have c2 := row1 (unhide R2)
  go_wp2_with fail
  go_fit (unhide E1 _ (unhide HB))
  rintro r w1 ⟨rfl, hb⟩
  replace R2 := hide (row_next hb (unhide R2))
  replace HB := hide (below_two (unhide HB) hb)
  clear hb c2 E1
  go_upto_region 2 with (refine mat_new rfl _ _ rfl _ m1 rfl rfl rfl ?_)
  have R5 := hide (new_row w1 (.cells (mC m1) 31))
  replace R2 := hide (row_next (al1_below w1 (.cells (mC m1) 31)) (unhide R2))
  replace HB := hide (below_two (unhide HB) (al1_below w1 (.cells (mC m1) 31)))
  generalize w1.alloc (.cells (mC m1) 31) = Y at R2 R5 HB ⊢
  generalize w1.heap.size = b5 at R5 ⊢
  cases y1 with
  | false =>
    have hX := hide (unhide hno rfl)
    have hE := hide (clip_empty (unhide HB))
    go_wp2_with fail
    go_ret
    exact ⟨_, rfl, by rw [unhide hX]; exact unhide hE, below_new _ (unhide HB) (Nat.le_refl _)⟩
  | true =>
    obtain ⟨k, hk', hf, hX⟩ := unhide hyes rfl
    have hki : (k : Int) < (n : Int) := by omega
    have ENA := hide (fun u (hu : Below Y.heap.size Y u) => (unhide E2 u (below_two (unhide HB) hu)).mono fun r w' h => show r = .returned (.int .i64 (k : Int)) ∧ Below u.heap.size u w' by rw [hf] at h; exact h)
    obtain ⟨b, o, hao, _⟩ := (unhide NN _ (unhide HB) k hk').range
    subst hao
    have hRX := hide (fun u (hu : Below Y.heap.size Y u) => show u.rangeAt b (o + k * 31) (ndC (X k) (A k)).toList by
      obtain ⟨b', o', e, h⟩ := (unhide NN u (below_two (unhide HB) hu) k hk').range
      cases e
      exact h)
    have HIN := hide (fun u (hu : Below Y.heap.size Y u) => (unhide NN u (below_two (unhide HB) hu) k hk').inn)
    have hsm := hide (unhide hs k hk')
    have hcp := hide (unhide hk k hk')
    obtain ⟨xx, hxx⟩ : ∃ z, Hid (X k = z) := ⟨_, rfl⟩
    obtain ⟨ss, hss⟩ : ∃ z, Hid (A k = z) := ⟨_, rfl⟩
    rw [unhide hxx] at hRX HIN hsm hcp hX
    rw [unhide hss] at hRX HIN hcp
    have hL0 := hide hX.symm
    have EMP := hide (fun u (hu : Below Y.heap.size Y u) => specMovePath_m m1 xx.wf xx.qf ss.bv ss.bp xx.mv ss.dv xx.mp ss.dp (caps_none (unhide hcp).cv) (unhide hsm).mv (unhide hsm).mp u (unhide HIN _ hu).cv (unhide HIN _ hu).cp)
    have EFL := hide (fun (u : World) (a' b' : Option Addr) (c' d' base : Nat) (hv : PathV u base (.slice a' (movN m1 xx.wf xx.mv xx.qf xx.mp xx.mv) c') (.slice b' (movN m1 xx.wf xx.mv xx.qf xx.mp xx.mp) d') (movN m1 xx.wf xx.mv xx.qf xx.mp xx.mv) (movN m1 xx.wf xx.mv xx.qf xx.mp xx.mp) xx.wf (fun i => mv6 m1 (xx.qf i))) => show Calls Tryz.prog 45 #[.agg #[.slice a' (movN m1 xx.wf xx.mv xx.qf xx.mp xx.mv) c', .slice b' (movN m1 xx.wf xx.mv xx.qf xx.mp xx.mp) d']] u (fun r w' => ∃ v, r = .returned v ∧ LinesV w' u.heap.size v (linesM m1 xx.wf xx.mv xx.qf xx.mp) ∧ Below u.heap.size u w') from
      specFlatOf_any xx.wf (fun i => mv6 m1 (xx.qf i)) a' b' _ c' _ d' (Nat.le_trans (movN_le ..) (unhide hsm).mv) (Nat.le_trans (movN_le ..) (unhide hsm).mp) u _ rightB_iff hv.ints hv.pts)
    rw [unhide hL0] at EFL
    generalize movN m1 xx.wf xx.mv xx.qf xx.mp xx.mv = n' at EMP EFL
    generalize movN m1 xx.wf xx.mv xx.qf xx.mp xx.mp = m' at EMP EFL
    have hR5 := hide (fun u (hu : Below Y.heap.size Y u) => mat_rng (row_next hu (unhide R5)))
    have hS4 := hide (fun u (hu : Below Y.heap.size Y u) => show Hid (Below Y.heap.size Y u) ∧ u.cell? ⟨b2, 0, none⟩ = some (.slice (some ⟨b, o, none⟩) n cp) ∧ u.cell? ⟨b, o + k * 31 + 29, none⟩ = some (.slice ss.bv xx.mv ss.dv) ∧ u.cell? ⟨b, o + k * 31 + 30, none⟩ = some (.slice ss.bp xx.mp ss.dp) from ⟨hu, row1 (row_next hu (unhide R2)), (unhide hRX u hu) 29 _ rfl, (unhide hRX u hu) 30 _ rfl⟩)
    have hYs := hide (unhide HB).size
    clear hX hf hxx hss hno hyes E2 NN hs hk hsm hcp HIN hRX
    go_upto_region 4 with fail
    refine wp_region_held_drew (S := (fun u => Hid (Below Y.heap.size Y u) ∧ u.cell? ⟨b2, 0, none⟩ = some (.slice (some ⟨b, o, none⟩) n cp) ∧ u.cell? ⟨b, o + k * 31 + 29, none⟩ = some (.slice ss.bv xx.mv ss.dv) ∧ u.cell? ⟨b, o + k * 31 + 30, none⟩ = some (.slice ss.bp xx.mp ss.dp))) (by kernel_rfl) ?_ (fun hHeld => ?_)
    · exact unhide hS4 _ (Below.refl _ _).drew
    refine wpAnyH_take (i := 0) (oi := { dst := some 16, op := Op.load 31 (Operand.tmp 5), type := 31, pos := "l17_shape.go:44", after := #[], guard := none }) (v := .agg (mC m1)) rfl (by kernel_rfl) (by kernel_rfl) (by kernel_rfl) (fun _ _ _ h => h) (yields_mat rfl _ rfl b5 0 rfl m1 (fun u hu => unhide hR5 u (unhide hu.1))) (by assumption) ?_
    try simp only [Act.put, List.setIfInBounds_toArray, List.set_cons_zero, List.set_cons_succ]
    refine wpAnyH_take (i := 1) (oi := { dst := some 17, op := Op.fieldAddr 26 (Operand.tmp 2) 0, type := 0, pos := "l17_shape.go:44", after := #[], guard := none }) (v := ?_) rfl (by kernel_rfl) (by kernel_rfl) (by kernel_rfl) (fun _ _ _ h => h) (Or.inl ⟨by rfl, ?_⟩) (by assumption) ?_
    rotate_left
    · intro w hSw; (try dsimp only at hSw); go_simp <;> with_reducible rfl
    try simp only [Act.put, List.setIfInBounds_toArray, List.set_cons_zero, List.set_cons_succ]
    refine wpAnyH_take (i := 2) (oi := { dst := some 18, op := Op.load 24 (Operand.tmp 17), type := 24, pos := "l17_shape.go:44", after := #[{ on := 1, ground := Ground.data }], guard := none }) (v := ?_) rfl (by kernel_rfl) (by kernel_rfl) (by kernel_rfl) (fun _ _ _ h => h) (Or.inl ⟨by rfl, ?_⟩) (by assumption) ?_
    rotate_left
    · intro w hSw; (try dsimp only at hSw); go_simp <;> with_reducible rfl
    try simp only [Act.put, List.setIfInBounds_toArray, List.set_cons_zero, List.set_cons_succ]
    refine wpAnyH_take (i := 3) (oi := { dst := some 19, op := Op.load 26 (Operand.tmp 2), type := 26, pos := "l17_shape.go:44", after := #[], guard := none }) (v := ?_) rfl (by kernel_rfl) (by kernel_rfl) (by kernel_rfl) (fun _ _ _ h => h) (Or.inl ⟨by rfl, ?_⟩) (by assumption) ?_
    rotate_left
    · intro w hSw; (try dsimp only at hSw); go_simp <;> with_reducible rfl
    try simp only [Act.put, List.setIfInBounds_toArray, List.set_cons_zero, List.set_cons_succ]
    refine wpAnyH_take (i := 4) (oi := { dst := some 20, op := Op.move (Operand.tmp 1), type := 3, pos := "l17_shape.go:44", after := #[], guard := none }) (v := ?_) rfl (by kernel_rfl) (by kernel_rfl) (by kernel_rfl) (fun _ _ _ h => h) (Or.inl ⟨by rfl, ?_⟩) (by assumption) ?_
    rotate_left
    · intro w hSw; (try dsimp only at hSw); go_simp <;> with_reducible rfl
    try simp only [Act.put, List.setIfInBounds_toArray, List.set_cons_zero, List.set_cons_succ]
    refine wpAnyH_ready (rs := [5]) (by kernel_rfl) (by simp) ?_
    refine AllReadyH.cons (o := { dst := some 21, op := Op.call { callee := Callee.value (Operand.func 32), args := #[Operand.tmp 19, Operand.tmp 20], argTypes := #[26, 3] }, type := 3, pos := "l17_shape.go:44", after := #[{ on := 3, ground := Ground.data }, { on := 4, ground := Ground.data }], guard := none }) rfl (fun K hK => ?_) AllReadyH.nil
    go_simp
    (first | (go_at_call 32; go_fit (unhide ENA _ (unhide hHeld.1)); rintro r wn ⟨rfl, hbn⟩; have sn := unhide hS4 _ (below_two (unhide hHeld.1) hbn)) | (go_at_call 46; go_fit (unhide EMP _ (unhide hHeld.1)); rintro r wn hp; obtain ⟨a', c', b', d', rfl, hv, hbn⟩ := hp.open; replace hv := hide hv; clear hp; have sn := unhide hS4 _ (below_two (unhide hHeld.1) hbn)) | (go_at_call 45; go_fit (unhide EFL _ _ _ _ _ _ (unhide hv)); rintro r wn ⟨v, rfl, hL, hbn⟩; replace hL := hide (hL.low (unhide hHeld.1).size); have sn := unhide hS4 _ (below_two (unhide hHeld.1) hbn)))
    refine hK.out _ _ ?_ (fun hHeld => ?_)
    · with_reducible exact sn
    clear hK K
    try simp only [Act.put, List.setIfInBounds_toArray, List.set_cons_zero, List.set_cons_succ]
    refine wpAnyH_take (i := 6) (oi := { dst := some 22, op := Op.indexAddr 24 (Operand.tmp 18) (Operand.tmp 21), type := 0, pos := "l17_shape.go:44", after := #[{ on := 2, ground := Ground.data }, { on := 5, ground := Ground.data }], guard := none }) (v := ?_) rfl (by kernel_rfl) (by kernel_rfl) (by kernel_rfl) (fun _ _ _ h => h) (Or.inl ⟨by rfl, ?_⟩) (by assumption) ?_
    rotate_left
    · intro w hSw; (try dsimp only at hSw); go_simp <;> with_reducible rfl
    try simp only [Act.put, List.setIfInBounds_toArray, List.set_cons_zero, List.set_cons_succ]
    refine wpAnyH_take (i := 7) (oi := { dst := some 23, op := Op.fieldAddr 42 (Operand.tmp 22) 11, type := 0, pos := "l17_shape.go:44", after := #[{ on := 6, ground := Ground.data }], guard := none }) (v := ?_) rfl (by kernel_rfl) (by kernel_rfl) (by kernel_rfl) (fun _ _ _ h => h) (Or.inl ⟨by rfl, ?_⟩) (by assumption) ?_
    rotate_left
    · intro w hSw; (try dsimp only at hSw); go_simp <;> with_reducible rfl
    try simp only [Act.put, List.setIfInBounds_toArray, List.set_cons_zero, List.set_cons_succ]
    refine wpAnyH_take (i := 8) (oi := { dst := some 24, op := Op.load 34 (Operand.tmp 23), type := 34, pos := "l17_shape.go:44", after := #[{ on := 7, ground := Ground.data }], guard := none }) (v := ?_) rfl (by kernel_rfl) (by kernel_rfl) (by kernel_rfl) (fun _ _ _ h => h) (Or.inl ⟨by rfl, ?_⟩) (by assumption) ?_
    rotate_left
    · intro w hSw; (try dsimp only at hSw); go_simp <;> with_reducible rfl
    try simp only [Act.put, List.setIfInBounds_toArray, List.set_cons_zero, List.set_cons_succ]
    refine wpAnyH_ready (rs := [9]) (by kernel_rfl) (by simp) ?_
    refine AllReadyH.cons (o := { dst := some 25, op := Op.call { callee := Callee.value (Operand.func 46), args := #[Operand.tmp 16, Operand.tmp 24], argTypes := #[31, 34] }, type := 34, pos := "l17_shape.go:44", after := #[{ on := 0, ground := Ground.data }, { on := 8, ground := Ground.data }, { on := 5, ground := Ground.chain }], guard := none }) rfl (fun K hK => ?_) AllReadyH.nil
    go_simp
    (first | (go_at_call 32; go_fit (unhide ENA _ (unhide hHeld.1)); rintro r wn ⟨rfl, hbn⟩; have sn := unhide hS4 _ (below_two (unhide hHeld.1) hbn)) | (go_at_call 46; go_fit (unhide EMP _ (unhide hHeld.1)); rintro r wn hp; obtain ⟨a', c', b', d', rfl, hv, hbn⟩ := hp.open; replace hv := hide hv; clear hp; have sn := unhide hS4 _ (below_two (unhide hHeld.1) hbn)) | (go_at_call 45; go_fit (unhide EFL _ _ _ _ _ _ (unhide hv)); rintro r wn ⟨v, rfl, hL, hbn⟩; replace hL := hide (hL.low (unhide hHeld.1).size); have sn := unhide hS4 _ (below_two (unhide hHeld.1) hbn)))
    refine hK.out _ _ ?_ (fun hHeld => ?_)
    · with_reducible exact sn
    clear hK K
    try simp only [Act.put, List.setIfInBounds_toArray, List.set_cons_zero, List.set_cons_succ]
    refine wpAnyH_ready (rs := [10]) (by kernel_rfl) (by simp) ?_
    refine AllReadyH.cons (o := { dst := some 26, op := Op.call { callee := Callee.value (Operand.func 45), args := #[Operand.tmp 25], argTypes := #[34] }, type := 61, pos := "l17_shape.go:44", after := #[{ on := 9, ground := Ground.data }, { on := 9, ground := Ground.chain }], guard := none }) rfl (fun K hK => ?_) AllReadyH.nil
    go_simp
    (first | (go_at_call 32; go_fit (unhide ENA _ (unhide hHeld.1)); rintro r wn ⟨rfl, hbn⟩; have sn := unhide hS4 _ (below_two (unhide hHeld.1) hbn)) | (go_at_call 46; go_fit (unhide EMP _ (unhide hHeld.1)); rintro r wn hp; obtain ⟨a', c', b', d', rfl, hv, hbn⟩ := hp.open; replace hv := hide hv; clear hp; have sn := unhide hS4 _ (below_two (unhide hHeld.1) hbn)) | (go_at_call 45; go_fit (unhide EFL _ _ _ _ _ _ (unhide hv)); rintro r wn ⟨v, rfl, hL, hbn⟩; replace hL := hide (hL.low (unhide hHeld.1).size); have sn := unhide hS4 _ (below_two (unhide hHeld.1) hbn)))
    refine hK.out _ _ ?_ (fun hHeld => ?_)
    · with_reducible exact sn
    clear hK K
    try simp only [Act.put, List.setIfInBounds_toArray, List.set_cons_zero, List.set_cons_succ]
    refine wpAnyH_take (i := 11) (oi := { dst := some 4, op := Op.assign (Operand.tmp 26), type := 61, pos := "l17_shape.go:44", after := #[{ on := 10, ground := Ground.data }, { on := 10, ground := Ground.chain }, { on := 0, ground := Ground.phase }, { on := 1, ground := Ground.phase }, { on := 2, ground := Ground.phase }, { on := 3, ground := Ground.phase }, { on := 4, ground := Ground.phase }, { on := 5, ground := Ground.phase }, { on := 6, ground := Ground.phase }, { on := 7, ground := Ground.phase }, { on := 8, ground := Ground.phase }, { on := 9, ground := Ground.phase }, { on := 10, ground := Ground.phase }], guard := none }) (v := ?_) rfl (by kernel_rfl) (by kernel_rfl) (by kernel_rfl) (fun _ _ _ h => h) (Or.inl ⟨by rfl, ?_⟩) (by assumption) ?_
    rotate_left
    · intro w hSw; (try dsimp only at hSw); go_simp <;> with_reducible rfl
    try simp only [Act.put, List.setIfInBounds_toArray, List.set_cons_zero, List.set_cons_succ]
    refine wpAnyH_done (by kernel_rfl) ?_ _
    have BZ := hide (below_two (unhide HB) (unhide hHeld.1))
    have hL2 := hide ((unhide hL).low (unhide hYs))
    clear hHeld sn hL
    go_wp2_with fail
    go_ret
    exact ⟨_, rfl, unhide hL2, unhide BZ⟩
end Go.Proofs.YtfnbemmlafmjlaaGreat

/-
  The bits that two numbers of 0 .. 15 both have; the specification's l11Both.
-/
namespace Go.Proofs.YtfnbemmlafmjlaaGreat
open Go.RowKit
set_option linter.unusedVariables false

theorem ret_iB {a b : Int} (h : a = b) : Ending.returned (.int .i64 a) = .returned (.int .i64 b) := by rw [h]
def bothN (a b : Int) : Nat → Int
  | 0 => 0
  | i + 1 => bothN a b i + if a / 2 ^ i % 2 = 1 ∧ b / 2 ^ i % 2 = 1 then 2 ^ i else 0
def bothI (a b : Int) : Int := bothN a b 4
theorem bothN_bd (a b : Int) : ∀ k, 0 ≤ bothN a b k ∧ bothN a b k ≤ 2 ^ k - 1
  | 0 => by simp [bothN]
  | k + 1 => by
    have := bothN_bd a b k
    have h2 : (2 : Int) ^ (k + 1) = 2 ^ k * 2 := rfl
    simp only [bothN]; rw [h2]; split <;> omega

set_option maxHeartbeats 4000000 in
theorem specL11Both_any (a b : Int) (ha : 0 ≤ a ∧ a ≤ 15) (hb : 0 ≤ b ∧ b ≤ 15) (w : World) :
    Calls Tryz.prog 33 #[.int .i64 a, .int .i64 b] w fun r w' => r = .returned (.int .i64 (bothI a b)) ∧ w' = w := by
  have hs : Hid (∀ k, bothN a b (k + 1) = bothN a b k + if a / 2 ^ k % 2 = 1 ∧ b / 2 ^ k % 2 = 1 then 2 ^ k else 0) := fun k => rfl
  have h0 : Hid (bothN a b 0 = 0) := rfl
  have hbd := hide (bothN_bd a b)
  unfold bothI
  generalize bothN a b = bn at hs h0 hbd ⊢
  go_enter Tryz.func33, Tryz.ntmps33
  go_wp2_with fail
  go_loopw [5, 6, 7] (fun s t i u => ∃ k : Nat, k ≤ 4 ∧ i = .int .i64 k ∧ t = .int .i64 (2 ^ k) ∧ s = .int .i64 (bn k) ∧ u = w) (fun _ _ i _ => 4 - (intOf i).toNat)
  case atStart => exact ⟨0, by omega, rfl, rfl, by rw [unhide h0], rfl⟩
  case round =>
    obtain ⟨k, hk, rfl, rfl, rfl, rfl⟩ := hrel
    obtain ⟨hb0, hb1⟩ := unhide hbd k
    have hs1 := hide (unhide hs k)
    by_cases h4 : k = 4
    · subst h4
      obtain ⟨S, hS⟩ : ∃ S, Hid (bn 4 = S) := ⟨_, rfl⟩
      rw [unhide hS] at hb0 hb1 ⊢
      go_wp2_with fail
      go_ret
      exact ⟨ret_iB (unhide hS).symm, rfl⟩
    · have h5 : k = 0 ∨ k = 1 ∨ k = 2 ∨ k = 3 := by omega
      clear h4
      rcases h5 with rfl | rfl | rfl | rfl
      · obtain ⟨S, hS⟩ : ∃ S, Hid (bn 0 = S) := ⟨_, rfl⟩
        have hs2 : Hid (bn 1 = S + if a / 1 % 2 = 1 ∧ b / 1 % 2 = 1 then 1 else 0) := by unfold Hid; rw [unhide hs1, unhide hS]; rfl
        rw [unhide hS] at hb0 hb1 ⊢
        clear hs1 hs
        have e1 : a.tdiv 1 = a / 1 := Int.tdiv_eq_ediv_of_nonneg (by omega)
        have e2 : b.tdiv 1 = b / 1 := Int.tdiv_eq_ediv_of_nonneg (by omega)
        have e3 : (a / 1).tmod 2 = a / 1 % 2 := Int.tmod_eq_emod_of_nonneg (by omega)
        have e4 : (b / 1).tmod 2 = b / 1 % 2 := Int.tmod_eq_emod_of_nonneg (by omega)
        have v1 : IntKind.i64.wrap (a / 1) = a / 1 := IntWalk.i64_in _ (by omega)
        have v2 : IntKind.i64.wrap (b / 1) = b / 1 := IntWalk.i64_in _ (by omega)
        have v3 : IntKind.i64.wrap (S + 1) = S + 1 := IntWalk.i64_in _ (by omega)
        by_cases ca : a / 1 % 2 = 1
        · have da : ((a / 1 % 2) == 1) = true := beq_iff_eq.2 ca
          by_cases cb : b / 1 % 2 = 1
          · have db : ((b / 1 % 2) == 1) = true := beq_iff_eq.2 cb
            have hX : Hid (bn 1 = S + 1) := by unfold Hid; rw [unhide hs2, if_pos ⟨ca, cb⟩]
            go_wp2_with fail
            go_roundw
            case rel => exact ⟨1, by omega, by go_num, by go_num, by rw [unhide hX], by trivial⟩
            case measure => simp [intOf]
          · have db : ((b / 1 % 2) == 1) = false := beq_eq_false_iff_ne.2 cb
            have hX : Hid (bn 1 = S) := by unfold Hid; rw [unhide hs2, if_neg (fun h => cb h.2)]; omega
            go_wp2_with fail
            go_roundw
            case rel => exact ⟨1, by omega, by go_num, by go_num, by rw [unhide hX], by trivial⟩
            case measure => simp [intOf]
        · have da : ((a / 1 % 2) == 1) = false := beq_eq_false_iff_ne.2 ca
          have hX : Hid (bn 1 = S) := by unfold Hid; rw [unhide hs2, if_neg (fun h => ca h.1)]; omega
          go_wp2_with fail
          go_roundw
          case rel => exact ⟨1, by omega, by go_num, by go_num, by rw [unhide hX], by trivial⟩
          case measure => simp [intOf]
      · obtain ⟨S, hS⟩ : ∃ S, Hid (bn 1 = S) := ⟨_, rfl⟩
        have hs2 : Hid (bn 2 = S + if a / 2 % 2 = 1 ∧ b / 2 % 2 = 1 then 2 else 0) := by unfold Hid; rw [unhide hs1, unhide hS]; rfl
        rw [unhide hS] at hb0 hb1 ⊢
        clear hs1 hs
        have e1 : a.tdiv 2 = a / 2 := Int.tdiv_eq_ediv_of_nonneg (by omega)
        have e2 : b.tdiv 2 = b / 2 := Int.tdiv_eq_ediv_of_nonneg (by omega)
        have e3 : (a / 2).tmod 2 = a / 2 % 2 := Int.tmod_eq_emod_of_nonneg (by omega)
        have e4 : (b / 2).tmod 2 = b / 2 % 2 := Int.tmod_eq_emod_of_nonneg (by omega)
        have v1 : IntKind.i64.wrap (a / 2) = a / 2 := IntWalk.i64_in _ (by omega)
        have v2 : IntKind.i64.wrap (b / 2) = b / 2 := IntWalk.i64_in _ (by omega)
        have v3 : IntKind.i64.wrap (S + 2) = S + 2 := IntWalk.i64_in _ (by omega)
        by_cases ca : a / 2 % 2 = 1
        · have da : ((a / 2 % 2) == 1) = true := beq_iff_eq.2 ca
          by_cases cb : b / 2 % 2 = 1
          · have db : ((b / 2 % 2) == 1) = true := beq_iff_eq.2 cb
            have hX : Hid (bn 2 = S + 2) := by unfold Hid; rw [unhide hs2, if_pos ⟨ca, cb⟩]
            go_wp2_with fail
            go_roundw
            case rel => exact ⟨2, by omega, by go_num, by go_num, by rw [unhide hX], by trivial⟩
            case measure => simp [intOf]
          · have db : ((b / 2 % 2) == 1) = false := beq_eq_false_iff_ne.2 cb
            have hX : Hid (bn 2 = S) := by unfold Hid; rw [unhide hs2, if_neg (fun h => cb h.2)]; omega
            go_wp2_with fail
            go_roundw
            case rel => exact ⟨2, by omega, by go_num, by go_num, by rw [unhide hX], by trivial⟩
            case measure => simp [intOf]
        · have da : ((a / 2 % 2) == 1) = false := beq_eq_false_iff_ne.2 ca
          have hX : Hid (bn 2 = S) := by unfold Hid; rw [unhide hs2, if_neg (fun h => ca h.1)]; omega
          go_wp2_with fail
          go_roundw
          case rel => exact ⟨2, by omega, by go_num, by go_num, by rw [unhide hX], by trivial⟩
          case measure => simp [intOf]
      · obtain ⟨S, hS⟩ : ∃ S, Hid (bn 2 = S) := ⟨_, rfl⟩
        have hs2 : Hid (bn 3 = S + if a / 4 % 2 = 1 ∧ b / 4 % 2 = 1 then 4 else 0) := by unfold Hid; rw [unhide hs1, unhide hS]; rfl
        rw [unhide hS] at hb0 hb1 ⊢
        clear hs1 hs
        have e1 : a.tdiv 4 = a / 4 := Int.tdiv_eq_ediv_of_nonneg (by omega)
        have e2 : b.tdiv 4 = b / 4 := Int.tdiv_eq_ediv_of_nonneg (by omega)
        have e3 : (a / 4).tmod 2 = a / 4 % 2 := Int.tmod_eq_emod_of_nonneg (by omega)
        have e4 : (b / 4).tmod 2 = b / 4 % 2 := Int.tmod_eq_emod_of_nonneg (by omega)
        have v1 : IntKind.i64.wrap (a / 4) = a / 4 := IntWalk.i64_in _ (by omega)
        have v2 : IntKind.i64.wrap (b / 4) = b / 4 := IntWalk.i64_in _ (by omega)
        have v3 : IntKind.i64.wrap (S + 4) = S + 4 := IntWalk.i64_in _ (by omega)
        by_cases ca : a / 4 % 2 = 1
        · have da : ((a / 4 % 2) == 1) = true := beq_iff_eq.2 ca
          by_cases cb : b / 4 % 2 = 1
          · have db : ((b / 4 % 2) == 1) = true := beq_iff_eq.2 cb
            have hX : Hid (bn 3 = S + 4) := by unfold Hid; rw [unhide hs2, if_pos ⟨ca, cb⟩]
            go_wp2_with fail
            go_roundw
            case rel => exact ⟨3, by omega, by go_num, by go_num, by rw [unhide hX], by trivial⟩
            case measure => simp [intOf]
          · have db : ((b / 4 % 2) == 1) = false := beq_eq_false_iff_ne.2 cb
            have hX : Hid (bn 3 = S) := by unfold Hid; rw [unhide hs2, if_neg (fun h => cb h.2)]; omega
            go_wp2_with fail
            go_roundw
            case rel => exact ⟨3, by omega, by go_num, by go_num, by rw [unhide hX], by trivial⟩
            case measure => simp [intOf]
        · have da : ((a / 4 % 2) == 1) = false := beq_eq_false_iff_ne.2 ca
          have hX : Hid (bn 3 = S) := by unfold Hid; rw [unhide hs2, if_neg (fun h => ca h.1)]; omega
          go_wp2_with fail
          go_roundw
          case rel => exact ⟨3, by omega, by go_num, by go_num, by rw [unhide hX], by trivial⟩
          case measure => simp [intOf]
      · obtain ⟨S, hS⟩ : ∃ S, Hid (bn 3 = S) := ⟨_, rfl⟩
        have hs2 : Hid (bn 4 = S + if a / 8 % 2 = 1 ∧ b / 8 % 2 = 1 then 8 else 0) := by unfold Hid; rw [unhide hs1, unhide hS]; rfl
        rw [unhide hS] at hb0 hb1 ⊢
        clear hs1 hs
        have e1 : a.tdiv 8 = a / 8 := Int.tdiv_eq_ediv_of_nonneg (by omega)
        have e2 : b.tdiv 8 = b / 8 := Int.tdiv_eq_ediv_of_nonneg (by omega)
        have e3 : (a / 8).tmod 2 = a / 8 % 2 := Int.tmod_eq_emod_of_nonneg (by omega)
        have e4 : (b / 8).tmod 2 = b / 8 % 2 := Int.tmod_eq_emod_of_nonneg (by omega)
        have v1 : IntKind.i64.wrap (a / 8) = a / 8 := IntWalk.i64_in _ (by omega)
        have v2 : IntKind.i64.wrap (b / 8) = b / 8 := IntWalk.i64_in _ (by omega)
        have v3 : IntKind.i64.wrap (S + 8) = S + 8 := IntWalk.i64_in _ (by omega)
        by_cases ca : a / 8 % 2 = 1
        · have da : ((a / 8 % 2) == 1) = true := beq_iff_eq.2 ca
          by_cases cb : b / 8 % 2 = 1
          · have db : ((b / 8 % 2) == 1) = true := beq_iff_eq.2 cb
            have hX : Hid (bn 4 = S + 8) := by unfold Hid; rw [unhide hs2, if_pos ⟨ca, cb⟩]
            go_wp2_with fail
            go_roundw
            case rel => exact ⟨4, by omega, by go_num, by go_num, by rw [unhide hX], by trivial⟩
            case measure => simp [intOf]
          · have db : ((b / 8 % 2) == 1) = false := beq_eq_false_iff_ne.2 cb
            have hX : Hid (bn 4 = S) := by unfold Hid; rw [unhide hs2, if_neg (fun h => cb h.2)]; omega
            go_wp2_with fail
            go_roundw
            case rel => exact ⟨4, by omega, by go_num, by go_num, by rw [unhide hX], by trivial⟩
            case measure => simp [intOf]
        · have da : ((a / 8 % 2) == 1) = false := beq_eq_false_iff_ne.2 ca
          have hX : Hid (bn 4 = S) := by unfold Hid; rw [unhide hs2, if_neg (fun h => ca h.1)]; omega
          go_wp2_with fail
          go_roundw
          case rel => exact ⟨4, by omega, by go_num, by go_num, by rw [unhide hX], by trivial⟩
          case measure => simp [intOf]

theorem to16 {x : Int} (h : 0 ≤ x ∧ x ≤ 15) : x = 0 ∨ x = 1 ∨ x = 2 ∨ x = 3 ∨ x = 4 ∨ x = 5 ∨ x = 6 ∨ x = 7 ∨ x = 8 ∨ x = 9 ∨ x = 10 ∨ x = 11 ∨ x = 12 ∨ x = 13 ∨ x = 14 ∨ x = 15 := by omega
theorem and_both {x y : Int} (hx : 0 ≤ x ∧ x ≤ 15) (hy : 0 ≤ y ∧ y ≤ 15) : bothI x y = bits BinOp.and IntKind.i64 x y := by
  rcases to16 hx with rfl | rfl | rfl | rfl | rfl | rfl | rfl | rfl | rfl | rfl | rfl | rfl | rfl | rfl | rfl | rfl <;>
  rcases to16 hy with rfl | rfl | rfl | rfl | rfl | rfl | rfl | rfl | rfl | rfl | rfl | rfl | rfl | rfl | rfl | rfl <;>
  kernel_rfl
end Go.Proofs.YtfnbemmlafmjlaaGreat

/-
  Four points: what both sides reckon.
-/
namespace Go.Proofs.YtfnbemmlafmjlaaGreat
open Go.RowKit
set_option linter.unusedVariables false

def nearB (x y : Int) : Bool := inB x (-33554432) 33554432 && inB y (-33554432) 33554432
theorem near_bd {x y : Int} (h : nearB x y = true) : (-33554432 ≤ x ∧ x ≤ 33554432) ∧ (-33554432 ≤ y ∧ y ≤ 33554432) := by
  simp only [nearB, inB, Bool.and_eq_true, decide_eq_true_eq] at h
  omega
def sideI (a b p : Pt) : Int := (b.1 - a.1) * (p.2 - a.2) - (p.1 - a.1) * (b.2 - a.2)
def upB (a b p : Pt) : Bool := decide (a.2 ≤ p.2) && (decide (p.2 < b.2) && decide (0 < sideI a b p))
def downB (a b p : Pt) : Bool := decide (b.2 ≤ p.2) && (decide (p.2 < a.2) && decide (sideI a b p < 0))
/-- What an edge adds. -/
def windE (a b p : Pt) : Int := (if upB a b p = true then 1 else 0) - (if downB a b p = true then 1 else 0)
theorem windE_bd (a b p : Pt) : -1 ≤ windE a b p ∧ windE a b p ≤ 1 := by
  unfold windE; split <;> split <;> omega
/-- The first k edges of n points. -/
def windN (n : Nat) (pf : Nat → Pt) (p : Pt) : Nat → Int
  | 0 => 0
  | k + 1 => windN n pf p k + windE (pf k) (pf ((k + 1) % n)) p
theorem windN_bd (n : Nat) (pf : Nat → Pt) (p : Pt) : ∀ k : Nat, -(k : Int) ≤ windN n pf p k ∧ windN n pf p k ≤ (k : Int)
  | 0 => by simp [windN]
  | k + 1 => by
    have := windN_bd n pf p k
    have := windE_bd (pf k) (pf ((k + 1) % n)) p
    simp only [windN]; push_cast; omega
def allNear (n : Nat) (pf : Nat → Pt) : Prop := ∀ i, i < n → nearB (pf i).1 (pf i).2 = true
noncomputable def windP (n : Nat) (pf : Nat → Pt) (p : Pt) : Int :=
  @ite _ (nearB p.1 p.2 = true ∧ allNear n pf) (Classical.propDecidable _) (windN n pf p n) 0
theorem windP_yes {n : Nat} {pf : Nat → Pt} {p : Pt} (h : nearB p.1 p.2 = true) (h' : allNear n pf) : windP n pf p = windN n pf p n := if_pos ⟨h, h'⟩
theorem windP_no {n : Nat} {pf : Nat → Pt} {p : Pt} (h : ¬ (nearB p.1 p.2 = true ∧ allNear n pf)) : windP n pf p = 0 := if_neg h
theorem windP_bd (n : Nat) (pf : Nat → Pt) (p : Pt) : -(n : Int) ≤ windP n pf p ∧ windP n pf p ≤ (n : Int) := by
  have := windN_bd n pf p n
  by_cases h : nearB p.1 p.2 = true ∧ allNear n pf
  · rw [windP_yes h.1 h.2]; exact this
  · rw [windP_no h]; omega
/-- Of the first k lines. -/
noncomputable def coverN (ln : Nat → Nat) (pf : Nat → Nat → Pt) (p : Pt) : Nat → Int
  | 0 => 0
  | k + 1 => coverN ln pf p k + windP (ln k) (pf k) p
theorem coverN_bd {ln : Nat → Nat} {N : Nat} (hl : ∀ i, i < N → ln i ≤ 1048576) (pf : Nat → Nat → Pt) (p : Pt) : ∀ k, k ≤ N → -((k : Int) * 1048576) ≤ coverN ln pf p k ∧ coverN ln pf p k ≤ (k : Int) * 1048576
  | 0, _ => by simp [coverN]
  | k + 1, h => by
    have := coverN_bd hl pf p k (by omega)
    have := windP_bd (ln k) (pf k) p
    have := hl k (by omega)
    simp only [coverN]; push_cast; omega
noncomputable def coversB (N : Nat) (ln : Nat → Nat) (pf : Nat → Nat → Pt) (even : Bool) (p : Pt) : Bool :=
  if even = true then decide (coverN ln pf p N % 2 ≠ 0) else decide (coverN ln pf p N ≠ 0)
/-- Point number i of a square. -/
def pointI (x y : Int) (i : Nat) : Pt := (256 * x + 64 + 128 * ((i : Int) % 2), 256 * y + 64 + 128 * ((i : Int) / 2))
noncomputable def maskN (N : Nat) (ln : Nat → Nat) (pf : Nat → Nat → Pt) (even : Bool) (x y : Int) : Nat → Int
  | 0 => 0
  | i + 1 => maskN N ln pf even x y i + if coversB N ln pf even (pointI x y i) = true then (2 : Int) ^ i else 0
noncomputable def maskP (N : Nat) (ln : Nat → Nat) (pf : Nat → Nat → Pt) (even : Bool) (x y : Int) : Int :=
  if (inB x (-2000) 2000 && inB y (-2000) 2000) = true then maskN N ln pf even x y 4 else 0
/-- A list of points within a list of them that came in, or that a call made. -/
def LArg (w : World) (a : Option Addr) (i : Nat) (n : Nat) (pf : Nat → Pt) : Prop := ∃ s o x c, a = some ⟨s, o, none⟩ ∧ w.cell? ⟨s, o + i, none⟩ = some (.slice x n c) ∧ ∀ j, j < n → PtArg w x j (pf j)
theorem LArg.next {w w1 : World} {a : Option Addr} {i n : Nat} {pf : Nat → Pt} (h : LArg w a i n pf) (hb : Below w.heap.size w w1) : LArg w1 a i n pf :=
  let ⟨s, o, x, c, h1, h2, h3⟩ := h; ⟨s, o, x, c, h1, kc hb h2, fun j hj => (h3 j hj).next hb⟩
end Go.Proofs.YtfnbemmlafmjlaaGreat

/-
  Lists of lists of points as functions; the lines of one, wherever they lie.
-/
namespace Go.Proofs.YtfnbemmlafmjlaaGreat
open Go.RowKit
set_option linter.unusedVariables false

/-- A list of lists as functions. -/
def lnG (L : List (List Pt)) (i : Nat) : Nat := (L[i]?.getD []).length
def ptG (L : List (List Pt)) (i : Nat) : Nat → Pt := listP (L[i]?.getD [])
theorem lnG_at {L : List (List Pt)} {i : Nat} (h : i < L.length) : lnG L i = L[i].length := by unfold lnG; rw [List.getElem?_eq_getElem h]; rfl
theorem ptG_at {L : List (List Pt)} {i : Nat} (h : i < L.length) : ptG L i = listP L[i] := by unfold ptG; rw [List.getElem?_eq_getElem h]; rfl
/-- The lines of a list of lists, wherever they lie. -/
theorem LinesV.all {u : World} {base : Nat} {v : Value} {L : List (List Pt)} (h : LinesV u base v L) : ∃ la lc, v = .slice la L.length lc ∧ ∀ i, i < L.length → LArg u la i (lnG L i) (ptG L i) := by
  obtain ⟨vs, o, k⟩ := h
  obtain ⟨la, lc, rfl⟩ := own_form o
  refine ⟨la, lc, rfl, fun i hi => ?_⟩
  obtain ⟨s, cs, hv, _, _⟩ := own_at o (by omega)
  cases hv
  have hvl : i < vs.length := by rw [k.len]; exact hi
  have ow := k.own i _ _ (List.getElem?_eq_getElem hvl) (List.getElem?_eq_getElem hi)
  obtain ⟨x, cx, ex⟩ := own_form ow
  refine ⟨s, 0, x, cx, rfl, ?_, fun j hj => ?_⟩
  · rw [Nat.zero_add, o.cellAt _ (by omega), List.getElem?_eq_getElem hvl, ex, lnG_at hi]
  · rw [ex] at ow
    rw [lnG_at hi] at hj
    rw [ptG_at hi]
    exact own_pxa ow (px_list _) j hj
end Go.Proofs.YtfnbemmlafmjlaaGreat

/-
  Areas: outlines one behind the other; the clips that lie on a node; the points of a square that they leave.
-/
namespace Go.Proofs.YtfnbemmlafmjlaaGreat
open Go.RowKit
set_option linter.unusedVariables false

theorem infoOut : (Tryz.prog.info? 98).map (fun i => (i.zero, i.size, i.bytes)) = some (some (.agg #[.slice none 0 0, .bool false]), 2, 32) := by kernel_rfl
/-- An outline: its lines, and whether it is even. -/
abbrev Out := List (List Pt) × Bool
noncomputable def maskG (o : Out) (x y : Int) : Int := maskP o.1.length (lnG o.1) (ptG o.1) o.2 x y
theorem maskN_15 (N : Nat) (ln : Nat → Nat) (pf : Nat → Nat → Pt) (even : Bool) (x y : Int) : ∀ k, 0 ≤ maskN N ln pf even x y k ∧ maskN N ln pf even x y k ≤ 2 ^ k - 1
  | 0 => by simp [maskN]
  | k + 1 => by
    have := maskN_15 N ln pf even x y k
    have h2 : (2 : Int) ^ (k + 1) = 2 ^ k * 2 := rfl
    have h3 : (0 : Int) < 2 ^ k := Int.pow_pos (by decide)
    simp only [maskN]
    split <;> omega
theorem maskG_bd (o : Out) (x y : Int) : 0 ≤ maskG o x y ∧ maskG o x y ≤ 15 := by
  unfold maskG maskP
  split
  · exact maskN_15 _ _ _ _ _ _ 4
  · omega
theorem bothI_bd (a b : Int) : 0 ≤ bothI a b ∧ bothI a b ≤ 15 := bothN_bd a b 4
/-- The points that the first k outlines all have. -/
noncomputable def bitsK (x y : Int) (cs : List Out) : Nat → Int
  | 0 => 15
  | k + 1 => bothI (bitsK x y cs k) (maskG (cs[k]?.getD ([], false)) x y)
theorem bitsK_bd (x y : Int) (cs : List Out) : ∀ k, 0 ≤ bitsK x y cs k ∧ bitsK x y cs k ≤ 15
  | 0 => by simp [bitsK]
  | k + 1 => bothI_bd _ _
theorem bitsK_app (x y : Int) (cs ds : List Out) : ∀ k, k ≤ cs.length → bitsK x y (cs ++ ds) k = bitsK x y cs k
  | 0, _ => rfl
  | k + 1, h => by
    simp only [bitsK]
    rw [bitsK_app x y cs ds k (by omega), List.getElem?_append_left (by omega)]
noncomputable def bitsA (x y : Int) (cs : List Out) : Int := bitsK x y cs cs.length
theorem bitsA_bd (x y : Int) (cs : List Out) : 0 ≤ bitsA x y cs ∧ bitsA x y cs ≤ 15 := bitsK_bd x y cs _
theorem bitsA_put (x y : Int) (cs : List Out) (o : Out) : bitsA x y (cs ++ [o]) = bothI (bitsA x y cs) (maskG o x y) := by
  unfold bitsA
  rw [List.length_append, List.length_singleton]
  simp only [bitsK]
  rw [bitsK_app x y cs [o] _ (Nat.le_refl _), List.getElem?_concat_length]
  rfl
/-- The clips from a node upwards, behind those that there are. -/
noncomputable def clipsF (X : Nat → Nd) (n : Nat) : Nat → Int → List Out → List Out
  | 0, _, cs => cs
  | f + 1, z, cs => if firstN X z n < 0 then cs else clipsF X n f (X (firstN X z n).toNat).par (if 0 < (X (firstN X z n).toNat).mv then cs ++ [(clipL X n z, false)] else cs)
theorem clipsF_none {X : Nat → Nd} {n : Nat} {z : Int} (h : firstN X z n < 0) (f : Nat) (cs : List Out) : clipsF X n f z cs = cs := by
  cases f with
  | zero => rfl
  | succ f => exact if_pos h
theorem clipsF_yes {X : Nat → Nd} {n k f : Nat} {z : Int} {cs : List Out} (h : firstN X z n = (k : Int)) (hm : 0 < (X k).mv) : clipsF X n (f + 1) z cs = clipsF X n f (X k).par (cs ++ [(clipL X n z, false)]) := by
  simp only [clipsF]
  rw [if_neg (by omega), h, Int.toNat_natCast, if_pos hm]
theorem clipsF_no {X : Nat → Nd} {n k f : Nat} {z : Int} {cs : List Out} (h : firstN X z n = (k : Int)) (hm : ¬ 0 < (X k).mv) : clipsF X n (f + 1) z cs = clipsF X n f (X k).par cs := by
  simp only [clipsF]
  rw [if_neg (by omega), h, Int.toNat_natCast, if_neg hm]
theorem clipsF_len (X : Nat → Nd) (n : Nat) : ∀ (f : Nat) (z : Int) (cs : List Out), (clipsF X n f z cs).length ≤ cs.length + f ∧ ((∀ o ∈ cs, o.1.length ≤ 1048576 ∧ ∀ l ∈ o.1, l.length ≤ 1048576) → ∀ o ∈ clipsF X n f z cs, o.1.length ≤ 1048576 ∧ ∀ l ∈ o.1, l.length ≤ 1048576)
  | 0, z, cs => ⟨Nat.le_refl _, fun h => h⟩
  | f + 1, z, cs => by
    simp only [clipsF]
    split
    · exact ⟨by omega, fun h => h⟩
    · obtain ⟨h1, h2⟩ := clipsF_len X n f (X (firstN X z n).toNat).par (if 0 < (X (firstN X z n).toNat).mv then cs ++ [(clipL X n z, false)] else cs)
      refine ⟨?_, fun h => h2 (fun o ho => ?_)⟩
      · have hle : (if 0 < (X (firstN X z n).toNat).mv then cs ++ [(clipL X n z, false)] else cs).length ≤ cs.length + 1 := by split <;> simp
        exact Nat.le_trans h1 (by omega)
      · split at ho
        · rw [List.mem_append, List.mem_singleton] at ho
          rcases ho with ho | rfl
          · exact h o ho
          · have := clip_small X n z
            exact ⟨by dsimp only; omega, fun l hl => by have := this.2 l hl; omega⟩
        · exact h o ho
theorem clipsF_small (X : Nat → Nd) (n : Nat) (f : Nat) (z : Int) (cs : List Out) (es : List (Value × Out)) (he : es.map (·.2) = clipsF X n f z []) (hf : f ≤ 1048576 := by decide) : es.length ≤ 1048576 ∧ ∀ e ∈ es, e.2.1.length ≤ 1048576 ∧ ∀ l ∈ e.2.1, l.length ≤ 1048576 := by
  obtain ⟨h1, h2⟩ := clipsF_len X n f z []
  have h3 := congrArg List.length he
  rw [List.length_map] at h3
  refine ⟨by simp at h1; omega, fun e hm => ?_⟩
  have hm2 : e.2 ∈ es.map (·.2) := List.mem_map.2 ⟨e, hm, rfl⟩
  rw [he] at hm2
  exact h2 (fun o ho => by cases ho) e.2 hm2
noncomputable def clipB (X : Nat → Nd) (n : Nat) (id x y : Int) : Int := if sceneOkB X n = true ∧ ¬ firstN X id n < 0 then bitsA x y (clipsF X n 4 id []) else 0
theorem clipB_no {X : Nat → Nd} {n : Nat} {id x y : Int} (h : ¬ (sceneOkB X n = true ∧ ¬ firstN X id n < 0)) : clipB X n id x y = 0 := if_neg h
theorem clipB_yes {X : Nat → Nd} {n : Nat} {id x y : Int} (h1 : sceneOkB X n = true) (h2 : ¬ firstN X id n < 0) : clipB X n id x y = bitsA x y (clipsF X n 4 id []) := if_pos ⟨h1, h2⟩

/-- The cells of an area: each outline's lines, and its flag. -/
def arV (es : List (Value × Out)) : List Value := es.flatMap fun e => [e.1, .bool e.2.2]
theorem arV_app (a b : List (Value × Out)) : arV (a ++ b) = arV a ++ arV b := by unfold arV; rw [List.flatMap_append]
theorem arV_at (es : List (Value × Out)) (i : Nat) (h : i < es.length) : (arV es)[i * 2]? = some es[i].1 ∧ (arV es)[i * 2 + 1]? = some (.bool es[i].2.2) := by
  induction es generalizing i with
  | nil => exact absurd h (by simp)
  | cons e t ih =>
    change ([e.1, .bool e.2.2] ++ arV t)[i * 2]? = _ ∧ ([e.1, .bool e.2.2] ++ arV t)[i * 2 + 1]? = _
    cases i with
    | zero => exact ⟨rfl, rfl⟩
    | succ i =>
      obtain ⟨h1, h2⟩ := ih i (by simpa using h)
      rw [List.getElem?_append_right (by simp; omega), List.getElem?_append_right (by simp; omega)]
      refine ⟨?_, ?_⟩
      · rw [show (i + 1) * 2 - [e.1, Value.bool e.2.2].length = i * 2 by simp; omega]; exact h1
      · rw [show (i + 1) * 2 + 1 - [e.1, Value.bool e.2.2].length = i * 2 + 1 by simp; omega]; exact h2
theorem grown_keepO {u u' : World} {base n : Nat} {v : Value} {xs : List Value} (ho : u.ownsRow base 98 2 v n xs) (hg : u.grownBy u' v.ownBlock) {b e s k : Nat} {x : Value} {ys : List Value} (h : u.ownsRow b e s x k ys) (he : e ≠ 98) : u'.ownsRow b e s x k ys := by
  refine h.kept hg ?_
  rcases h.2 with ⟨rfl, _⟩ | ⟨g, cap, cur, rfl, _, h1, _⟩
  · exact .inl rfl
  · right
    rcases ho.2 with ⟨rfl, _⟩ | ⟨g', cap', cur', rfl, _, h2, _⟩
    · simp [Value.ownBlock]
    · intro e3
      simp only [Value.ownBlock, Option.some.injEq] at e3
      subst e3
      rw [h1] at h2
      injection h2 with h2
      injection h2 with _ h4
      exact he h4
theorem LinesV.grownO {u u' : World} {base b n : Nat} {v lv : Value} {xs : List Value} {L : List (List Pt)} (ho : u.ownsRow base 98 2 v n xs) (hg : u.grownBy u' v.ownBlock) (h : LinesV u b lv L) : LinesV u' b lv L := by
  obtain ⟨vs, h1, h2⟩ := h
  exact ⟨vs, grown_keepO ho hg h1 (by decide), h2.len, fun i x y e1 e2 => grown_keepO ho hg (h2.own i x y e1 e2) (by decide), h2.up⟩
/-- An area that grows. -/
structure GA (w u : World) (v : Value) (es : List (Value × Out)) : Prop where
  row : u.ownsRow w.heap.size 98 2 v es.length (arV es)
  lines : ∀ e ∈ es, LinesV u w.heap.size e.1 e.2.1
  bel : Below w.heap.size w u
theorem GA.next {w u u' : World} {v : Value} {es : List (Value × Out)} (h : GA w u v es) (hb : Below u.heap.size u u') : GA w u' v es :=
  ⟨own_below h.row hb, fun e he => (h.lines e he).next hb, below_two h.bel hb⟩
theorem GA.form {w u : World} {v : Value} {es : List (Value × Out)} (h : GA w u v es) : ∃ a c, v = .slice a es.length c := own_form h.row
theorem GA.begin (w u : World) (hb : Below w.heap.size w u) : GA w (u.alloc (.cells #[] 98)) (.slice (some ⟨u.heap.size, 0, none⟩) 0 0) [] :=
  ⟨World.ownsRow_lit (base := w.heap.size) (e := 98) (size := 2) u #[] 0 hb.size (by decide) rfl, fun e he => (by cases he), below_new _ hb (Nat.le_refl _)⟩
theorem GA.at {w u : World} {a : Option Addr} {c : Nat} {es : List (Value × Out)} (h : GA w u (.slice a es.length c) es) (i : Nat) (hi : i < es.length) : ∃ g, a = some ⟨g, 0, none⟩ ∧ u.cell? ⟨g, i * 2, none⟩ = some es[i].1 ∧ u.cell? ⟨g, i * 2 + 1, none⟩ = some (.bool es[i].2.2) := by
  obtain ⟨g, cap, e, _, _⟩ := own_at h.row (by omega)
  cases e
  exact ⟨g, rfl, (h.row.cellAt _ (by omega)).trans (arV_at es i hi).1, (h.row.cellAt _ (by omega)).trans (arV_at es i hi).2⟩
theorem lines_one {u : World} {base : Nat} {v : Value} {L : List (List Pt)} (h : LinesV u base v L) : v.oneCell' = true := by
  obtain ⟨a, c, rfl⟩ := h.form; rfl
/-- What is no row of outlines stays. -/
def KeepO (u u' : World) : Prop := ∀ (k : Nat) (o : Obj), u.heap[k]? = some o → (∀ cs f, o ≠ .cells cs 98 f) → u'.heap[k]? = some o
/-- 'append' of one outline, as one step of a region that draws its order. -/
theorem step_append_out {P : Program} {ops : Array Oper} {o : Oper} {a : Act} {K : Act → World → Prop} {Q : Exit → Act → World → Prop} {E : Prop} (hgd : o.guard = none) (s x : Operand) (t : TypeId)
    (hop : o.op = .call { callee := .builtin .append, args := #[s, x], argTypes := #[t, t] })
    (i : TypeInfo) (z : Value) (ht : P.underlying t = some (.slice 98)) (hi : P.info? 98 = some i) (hz : i.zero = some z) (hsize : i.size = 2) (hby : i.bytes = 32) (hzs : z.cells.size = 2)
    {w u wr : World} {v lv : Value} {L : List (List Pt)} {ev : Bool} {es : List (Value × Out)} {c : Nat} (h : GA w u v es) (hb : Below u.heap.size u wr) (hL : LinesV wr u.heap.size lv L)
    (hs : a.eval s = v) (hx : a.eval x = .slice (some ⟨wr.heap.size, 0, none⟩) 1 c) (hlen : es.length ≤ 1048576)
    (hK : ∀ v' u', GA w u' v' (es ++ [(lv, (L, ev))]) → KeepO wr u' → K (a.put o.dst v') u') :
    if Region.wanted o (yielded ops a.tmps) = true then Oper.wp P o a (wr.alloc (.cells #[lv, .bool ev] 98)) K Q else E := by
  have hw : Region.wanted o (yielded ops a.tmps) = true := by simp [Region.wanted, hgd]
  rw [if_pos hw]
  have hba := al1_below wr (.cells #[lv, .bool ev] 98)
  have h1 := (h.next hb).next hba
  have hcell : ∀ j q, [lv, Value.bool ev][j]? = some q → (wr.alloc (.cells #[lv, .bool ev] 98)).cell? ((⟨wr.heap.size, 0, none⟩ : Addr).add j) = some q := by
    intro j q hj
    have hr := al1_0 wr (.cells #[lv, .bool ev] 98)
    match j, hj with
    | 0, hj => simp at hj; subst hj; exact cell_of_row _ _ _ _ _ _ hr
    | 1, hj => simp at hj; subst hj; exact cell_of_row _ _ _ _ _ _ hr
    | j + 2, hj => simp at hj
  refine wp_append_own (wr.alloc (.cells #[lv, .bool ev] 98)) s x t hop w.heap.size 98 i z 2 32 ht hi hz hsize hby hzs (by decide) v es.length (arV es) hs h1.row ⟨wr.heap.size, 0, none⟩ 1 c [lv, .bool ev] hx (by simp) hcell (fun q hq => ?_) (by unfold maxLen; omega) (by omega) h1.bel.size ?_
  · simp at hq
    rcases hq with rfl | rfl
    · exact lines_one hL
    · rfl
  · intro v' w' ho hg _
    have hkp : KeepO wr w' := fun k o hk hne => by
      have hk2 := old_row (.cells #[lv, .bool ev] 98) hk
      refine (hg.block k (heap_lt hk2) (fun e => ?_)).trans hk2
      rcases h1.row.2 with ⟨rfl, _⟩ | ⟨g', cap', cur', rfl, _, h2, _⟩
      · cases e
      · simp only [Value.ownBlock, Option.some.injEq] at e
        subst e
        rw [hk2] at h2
        exact hne _ _ (Option.some.inj h2)
    refine hK v' w' ⟨?_, fun e he => ?_, ?_⟩ hkp
    · rw [List.length_append, List.length_singleton, arV_app]; exact ho
    · rw [List.mem_append, List.mem_singleton] at he
      rcases he with he | rfl
      · exact (h1.lines e he).grownO h1.row hg
      · exact ((hL.next hba).grownO h1.row hg).low h.bel.size
    · exact h1.bel.grown hg h1.bel.size (fun q hq => (h1.row.lt q hq).1)
theorem Stand.keep {u u' : World} {m n : Nat} {ao : Option Addr} {X : Nat → Nd} (h : Stand u m ao X n) (hk : KeepO u u') : Stand u' m ao X n :=
  let ⟨D, ⟨es, c, h1, h2⟩, h3⟩ := h; ⟨D, ⟨es, c, hk _ _ h1 (fun cs f e => by cases e), h2⟩, h3⟩
end Go.Proofs.YtfnbemmlafmjlaaGreat

/-
  The specification's WindOf, Covers, MaskAt, CountOf.
-/
namespace Go.Proofs.YtfnbemmlafmjlaaGreat
open Go.RowKit
set_option linter.unusedVariables false

set_option maxHeartbeats 1000000 in
set_option maxRecDepth 100000 in
theorem specNear_any (x y : Int) (w : World) :
    Calls Tryz.prog 134 #[.agg #[.int .i64 x, .int .i64 y]] w fun e w' => e = .returned (.bool (nearB x y)) ∧ Below w.heap.size w w' := by
  have HX := hide (l01In_any x (-33554432) 33554432)
  have HY := hide (l01In_any y (-33554432) 33554432)
  have H : Hid ((inB x (-33554432) 33554432 && inB y (-33554432) 33554432) = nearB x y) := rfl
  obtain ⟨p, hp⟩ : ∃ p, p = inB x (-33554432) 33554432 := ⟨_, rfl⟩
  obtain ⟨q, hq⟩ : ∃ q, q = inB y (-33554432) 33554432 := ⟨_, rfl⟩
  rw [← hp] at HX H
  rw [← hq] at HY H
  clear hp hq
  cases p
  · go_enter Tryz.func134, Tryz.ntmps134
    go_wp2_with fail
    refine (unhide HX _).mono ?_
    rintro e w1 ⟨rfl, rfl⟩
    go_wp2_with fail
    go_ret
    exact ⟨ret_bool (unhide H), (Below.refl _ _).alloc (Nat.le_refl _) _⟩
  · go_enter Tryz.func134, Tryz.ntmps134
    go_wp2_with fail
    refine (unhide HX _).mono ?_
    rintro e w1 ⟨rfl, rfl⟩
    go_wp2_with fail
    refine (unhide HY _).mono ?_
    rintro e w2 ⟨rfl, rfl⟩
    go_wp2_with fail
    go_ret
    exact ⟨ret_bool (unhide H), (Below.refl _ _).alloc (Nat.le_refl _) _⟩

theorem not_near {n : Nat} {pf : Nat → Pt} {k : Nat} (hk : k < n) {x y : Int} (hz : pf k = (x, y)) (h : nearB x y = false) (p : Pt) : windP n pf p = 0 :=
  windP_no (fun h' => by have := h'.2 k hk; rw [hz] at this; dsimp only at this; rw [h] at this; cases this)
set_option maxHeartbeats 8000000 in
set_option maxRecDepth 100000 in
theorem specWindOf_any (pf : Nat → Pt) (la : Option Addr) (n lc : Nat) (hn : n ≤ 1048576) (x y : Int) (w : World) (P : ∀ i, i < n → PtArg w la i (pf i)) :
    Calls Tryz.prog 101 #[.slice la n lc, .agg #[.int .i64 x, .int .i64 y]] w fun e w' => e = .returned (.int .i64 (windP n pf (x, y))) ∧ Below w.heap.size w w' := by
  have EP := hide (specNear_any x y)
  replace P := hide P
  cases hp : nearB x y with
  | false =>
    rw [windP_no (fun h => by have := h.1; dsimp only at this; rw [hp] at this; cases this)]
    rw [hp] at EP
    clear hp
    go_enter Tryz.func101, Tryz.ntmps101
    go_wp2_with fail
    go_fit (unhide EP _)
    rintro r w1 ⟨rfl, hb⟩
    go_wp2_with fail
    go_ret
    exact ⟨rfl, below_two (al1_below _ _) hb⟩
  | true =>
    rw [hp] at EP
    obtain ⟨px, py⟩ := near_bd hp
    have hall : Hid (allNear n pf → windP n pf (x, y) = windN n pf (x, y) n) := fun h => windP_yes hp h
    have hno := hide (fun k (hk : k < n) (xa ya : Int) hz h => not_near (pf := pf) hk (x := xa) (y := ya) hz h (x, y))
    generalize windP n pf (x, y) = R at hall hno ⊢
    clear hp
    go_enter Tryz.func101, Tryz.ntmps101
    go_wp2_with fail
    have R3 := hide (new_row w (.cells #[.int .i64 x, .int .i64 y] 38))
    have HB := hide (al1_below w (.cells #[.int .i64 x, .int .i64 y] 38))
    generalize hb3 : w.heap.size = b3 at R3 ⊢
    generalize w.alloc (.cells #[.int .i64 x, .int .i64 y] 38) = W at R3 HB ⊢
    replace hb3 := hide hb3
    go_fit (unhide EP _)
    rintro r w1 ⟨rfl, hb⟩
    replace R3 := hide (row_next hb (unhide R3))
    replace HB := hide (below_two (unhide HB) hb)
    clear hb EP
    go_wp2_with fail
    go_loopw [5, 6] (fun s i u => ∃ k : Nat, k ≤ n ∧ i = .int .i64 k ∧ s = .int .i64 (windN n pf (x, y) k) ∧ Hid (∀ j, j < k → nearB (pf j).1 (pf j).2 = true) ∧ Hid (Below w.heap.size w u) ∧ Hid (u.heap[b3]? = some (.cells #[.int .i64 x, .int .i64 y] 38 (0, 0)))) (fun _ i _ => n - (intOf i).toNat)
    case atStart => exact ⟨0, Nat.zero_le _, rfl, rfl, fun j hj => absurd hj (by omega), HB, R3⟩
    case round =>
      clear HB R3
      obtain ⟨k, hk, rfl, rfl, HK, HB, R3⟩ := hrel
      have hS := windN_bd n pf (x, y) k
      by_cases hlt : k < n
      · have hk1 : (k + 1) % n < n := Nat.mod_lt _ (by omega)
        have hs1 : Hid (windN n pf (x, y) (k + 1) = windN n pf (x, y) k + windE (pf k) (pf ((k + 1) % n)) (x, y)) := rfl
        have Pa := (unhide P k hlt).next (unhide HB)
        have Pb := (unhide P _ hk1).next (unhide HB)
        have e1' : ((k : Int) + 1).tmod (n : Int) = (((k + 1) % n : Nat) : Int) := by rw [Int.tmod_eq_emod_of_nonneg (by omega)]; push_cast; rfl
        have hnk := unhide hno k hlt
        have hnk1 := unhide hno _ hk1
        generalize (k + 1) % n = k1 at *
        obtain ⟨za, hza⟩ : ∃ z, pf k = z := ⟨_, rfl⟩
        obtain ⟨zb, hzb⟩ : ∃ z, pf k1 = z := ⟨_, rfl⟩
        have Na := fun xa ya (h : za = (xa, ya)) => hnk xa ya (hza.trans h)
        have Nb := fun xa ya (h : zb = (xa, ya)) => hnk1 xa ya (hzb.trans h)
        rw [hza] at Pa hs1
        rw [hzb] at Pb hs1
        obtain ⟨xa, ya⟩ := za
        obtain ⟨xb, yb⟩ := zb
        replace Na := hide (Na xa ya rfl)
        replace Nb := hide (Nb xb yb rfl)
        obtain ⟨s0, o0, rfl, a0, a1⟩ := Pa
        obtain ⟨_, _, e1, b0, b1⟩ := Pb
        cases e1
        dsimp only at a0 a1 b0 b1
        have EA := hide (specNear_any xa ya)
        have EB := hide (specNear_any xb yb)
        have w1' : IntKind.i64.wrap ((k : Int) + 1) = (k : Int) + 1 := IntWalk.i64_in _ (by omega)
        have hki : (k : Int) < (n : Int) := by omega
        have hk1i : (k1 : Int) < (n : Int) := by omega
        have hn0 : ¬ n = 0 := by omega
        have hnz : ((n : Int) == 0) = false := beq_eq_false_iff_ne.2 (by omega)
        have nb0 := fun o => kn o b0
        have nb1 := fun o => kn o b1
        replace hza := hide hza
        go_upto_region 9 with fail
        obtain ⟨W2, hW⟩ : ∃ W2, W2 = (wr.alloc (.cells #[.int .i64 xa, .int .i64 ya] 38)).alloc (.cells #[.int .i64 xb, .int .i64 yb] 38) := ⟨_, rfl⟩
        have Ra := hide (show W2.heap[wr.heap.size]? = some (.cells #[.int .i64 xa, .int .i64 ya] 38 (0, 0)) by rw [hW]; exact al2_0 _ _ _)
        have Rb := hide (show W2.heap[wr.heap.size + 1]? = some (.cells #[.int .i64 xb, .int .i64 yb] 38 (0, 0)) by rw [hW]; exact al2_1 _ _ _)
        have hbw : Below wr.heap.size wr W2 := by rw [hW]; exact al2_below _ _ _
        replace R3 := hide (row_next hbw (unhide R3))
        replace HB := hide (below_two (unhide HB) hbw)
        rw [← hW]
        clear hW hbw a0 a1 b0 b1 nb0 nb1
        generalize wr.heap.size + 1 = b8 at Rb ⊢
        generalize wr.heap.size = b7 at Ra ⊢
        obtain ⟨a0, a1⟩ := row2 (unhide Ra)
        go_wp2_with fail
        go_fit (unhide EA _)
        rintro r w2 ⟨rfl, hb⟩
        replace Ra := hide (row_next hb (unhide Ra))
        replace Rb := hide (row_next hb (unhide Rb))
        replace R3 := hide (row_next hb (unhide R3))
        replace HB := hide (below_two (unhide HB) hb)
        clear hb a0 a1 EA
        cases ha : nearB xa ya with
        | false =>
          have hR := hide (unhide Na ha)
          go_wp2_with fail
          go_ret
          exact ⟨congrArg (fun z => Ending.returned (.int .i64 z)) (unhide hR).symm, unhide HB⟩
        | true =>
          obtain ⟨b0, b1⟩ := row2 (unhide Rb)
          obtain ⟨ax, ay⟩ := near_bd ha
          have hka : Hid (nearB (pf k).1 (pf k).2 = true) := by unfold Hid; rw [unhide hza]; exact ha
          clear Na ha
          go_wp2_with fail
          go_fit (unhide EB _)
          rintro r w3 ⟨rfl, hb⟩
          replace Ra := hide (row_next hb (unhide Ra))
          replace Rb := hide (row_next hb (unhide Rb))
          replace R3 := hide (row_next hb (unhide R3))
          replace HB := hide (below_two (unhide HB) hb)
          clear hb b0 b1 EB
          cases hbn : nearB xb yb with
          | false =>
            have hR := hide (unhide Nb hbn)
            go_wp2_with fail
            go_ret
            exact ⟨congrArg (fun z => Ending.returned (.int .i64 z)) (unhide hR).symm, unhide HB⟩
          | true =>
            obtain ⟨bx, byy⟩ := near_bd hbn
            clear Nb hbn
            obtain ⟨a0, a1⟩ := row2 (unhide Ra)
            obtain ⟨b0, b1⟩ := row2 (unhide Rb)
            obtain ⟨p0, p1⟩ := row2 (unhide R3)
            have m1 := mul_bd (A := 67108864) (X := 67108864) (a := xb - xa) (x := y - ya) (by omega) (by omega) (by omega) (by omega)
            have m2 := mul_bd (A := 67108864) (X := 67108864) (a := x - xa) (x := yb - ya) (by omega) (by omega) (by omega) (by omega)
            have v1 : IntKind.i64.wrap (xb - xa) = xb - xa := IntWalk.i64_in _ (by omega)
            have v2 : IntKind.i64.wrap (y - ya) = y - ya := IntWalk.i64_in _ (by omega)
            have v3 : IntKind.i64.wrap (x - xa) = x - xa := IntWalk.i64_in _ (by omega)
            have v4 : IntKind.i64.wrap (yb - ya) = yb - ya := IntWalk.i64_in _ (by omega)
            have v5 : IntKind.i64.wrap ((xb - xa) * (y - ya)) = (xb - xa) * (y - ya) := IntWalk.i64_in _ (by omega)
            have v6 : IntKind.i64.wrap ((x - xa) * (yb - ya)) = (x - xa) * (yb - ya) := IntWalk.i64_in _ (by omega)
            have v7 : IntKind.i64.wrap ((xb - xa) * (y - ya) - (x - xa) * (yb - ya)) = (xb - xa) * (y - ya) - (x - xa) * (yb - ya) := IntWalk.i64_in _ (by omega)
            have hU : Hid (upB (xa, ya) (xb, yb) (x, y) = (decide (ya ≤ y) && (decide (y < yb) && decide (0 < (xb - xa) * (y - ya) - (x - xa) * (yb - ya))))) := rfl
            have hD : Hid (downB (xa, ya) (xb, yb) (x, y) = (decide (yb ≤ y) && (decide (y < ya) && decide ((xb - xa) * (y - ya) - (x - xa) * (yb - ya) < 0)))) := rfl
            unfold windE at hs1
            generalize upB (xa, ya) (xb, yb) (x, y) = up at hU hs1
            generalize downB (xa, ya) (xb, yb) (x, y) = dn at hD hs1
            generalize windN n pf (x, y) k = S at hS hs1 ⊢
            generalize hsd : (xb - xa) * (y - ya) - (x - xa) * (yb - ya) = sd at hU hD v7 
            have w5 : IntKind.i64.wrap (S + 1) = S + 1 := IntWalk.i64_in _ (by omega)
            have w6 : IntKind.i64.wrap (S - 1) = S - 1 := IntWalk.i64_in _ (by omega)
            have w7 : IntKind.i64.wrap (S + 1 - 1) = S + 1 - 1 := IntWalk.i64_in _ (by omega)
            clear m1 m2 px py ax ay bx byy
            go_upto_region 12 with fail
            go_cut [77] (fun s u => s = .bool up ∧ u = w3)
            case first =>
              by_cases c1 : ya ≤ y
              · by_cases c2 : y < yb
                · by_cases c3 : 0 < sd
                  all_goals
                    go_wp2_with fail
                    go_meet
                    exact ⟨by rw [unhide hU]; simp <;> omega, rfl⟩
                · go_wp2_with fail
                  go_meet
                  exact ⟨by rw [unhide hU]; simp <;> omega, rfl⟩
              · go_wp2_with fail
                go_meet
                exact ⟨by rw [unhide hU]; simp <;> omega, rfl⟩
            case rest =>
              obtain ⟨rfl, rfl⟩ := hcut
              clear hU
              obtain ⟨T, hT⟩ : ∃ T, Hid (T = S + if up = true then 1 else 0) := ⟨_, rfl⟩
              have hTb : S ≤ T ∧ T ≤ S + 1 := by rw [unhide hT]; split <;> omega
              have w8 : IntKind.i64.wrap (T - 1) = T - 1 := IntWalk.i64_in _ (by omega)
              go_upto_if 77 with fail
              go_cut [5] (fun s u => s = .int .i64 T ∧ u = wc)
              case first =>
                cases up with
                | true =>
                  go_wp2_with fail
                  go_meet
                  exact ⟨by rw [unhide hT]; rfl, rfl⟩
                | false =>
                  go_wp2_with fail
                  go_meet
                  exact ⟨by rw [unhide hT]; simp, rfl⟩
              case rest =>
                obtain ⟨rfl, rfl⟩ := hcut
                go_upto_region 14 with fail
                go_cut [95] (fun s u => s = .bool dn ∧ u = wc)
                case first =>
                  by_cases c1 : yb ≤ y
                  · by_cases c2 : y < ya
                    · by_cases c3 : sd < 0
                      all_goals
                        go_wp2_with fail
                        go_meet
                        exact ⟨by rw [unhide hD]; simp <;> omega, rfl⟩
                    · go_wp2_with fail
                      go_meet
                      exact ⟨by rw [unhide hD]; simp <;> omega, rfl⟩
                  · go_wp2_with fail
                    go_meet
                    exact ⟨by rw [unhide hD]; simp <;> omega, rfl⟩
                case rest =>
                  obtain ⟨rfl, rfl⟩ := hcut
                  clear hD
                  have hfin : Hid (windN n pf (x, y) (k + 1) = T - if dn = true then 1 else 0) := by unfold Hid; rw [unhide hs1, unhide hT]; omega
                  cases dn with
                  | true =>
                    go_wp2_with fail
                    go_roundw
                    case rel => exact ⟨k + 1, by omega, by go_num, by rw [unhide hfin]; rfl, fun j hj => (by by_cases e : j = k; (subst e; exact unhide hka); exact unhide HK j (by omega)), HB, R3⟩
                    case measure => simp [intOf]; omega
                  | false =>
                    go_wp2_with fail
                    go_roundw
                    case rel => exact ⟨k + 1, by omega, by go_num, by rw [unhide hfin]; simp, fun j hj => (by by_cases e : j = k; (subst e; exact unhide hka); exact unhide HK j (by omega)), HB, R3⟩
                    case measure => simp [intOf]; omega
      · have hke : k = n := by omega
        subst hke
        have hki : ¬ (k : Int) < (k : Int) := by omega
        have hR := hide (unhide hall (unhide HK))
        go_wp2_with fail
        go_ret
        exact ⟨congrArg (fun z => Ending.returned (.int .i64 z)) (unhide hR).symm, unhide HB⟩

theorem tm2 (S : Int) : S.tmod 2 = 0 ↔ S % 2 = 0 :=
  ⟨fun h => Int.emod_eq_zero_of_dvd (Int.dvd_of_tmod_eq_zero h), fun h => Int.tmod_eq_zero_of_dvd (Int.dvd_of_emod_eq_zero h)⟩

set_option maxHeartbeats 4000000 in
set_option maxRecDepth 100000 in
theorem specCovers_any (N : Nat) (ln : Nat → Nat) (pf : Nat → Nat → Pt) (hN : N ≤ 1048576) (hl : ∀ i, i < N → ln i ≤ 1048576) (la : Option Addr) (lc : Nat) (even : Bool) (x y : Int) (w : World) (L : ∀ i, i < N → LArg w la i (ln i) (pf i)) :
    Calls Tryz.prog 65 #[.slice la N lc, .bool even, .agg #[.int .i64 x, .int .i64 y]] w fun e w' => e = .returned (.bool (coversB N ln pf even (x, y))) ∧ Below w.heap.size w w' := by
  have hbd := hide (fun k hk => coverN_bd hl pf (x, y) k hk)
  have EW := hide (fun i (hi : i < N) (a : Option Addr) (c : Nat) u P => specWindOf_any (pf i) a (ln i) c (hl i hi) x y u P)
  have hwb := hide (fun i (hi : i < N) => (⟨windP_bd (ln i) (pf i) (x, y), hl i hi⟩ : (-(ln i : Int) ≤ windP (ln i) (pf i) (x, y) ∧ windP (ln i) (pf i) (x, y) ≤ (ln i : Int)) ∧ ln i ≤ 1048576))
  obtain ⟨C, hC⟩ : ∃ C, Hid (coversB N ln pf even (x, y) = C) := ⟨_, rfl⟩
  rw [unhide hC]
  have hs0 : Hid (∀ k, coverN ln pf (x, y) (k + 1) = coverN ln pf (x, y) k + windP (ln k) (pf k) (x, y)) := fun k => rfl
  replace L := hide L
  replace hl := hide hl
  go_enter Tryz.func65, Tryz.ntmps65
  go_wp2_with fail
  have R5 := hide (new_row w (.cells #[.int .i64 x, .int .i64 y] 38))
  have HB := hide (al1_below w (.cells #[.int .i64 x, .int .i64 y] 38))
  obtain ⟨b5, hb5⟩ : ∃ b, Hid (b = w.heap.size) := ⟨_, rfl⟩
  rw [← unhide hb5] at R5
  rw [← unhide hb5]
  generalize w.alloc (.cells #[.int .i64 x, .int .i64 y] 38) = W at R5 HB ⊢
  go_loopw [7, 8] (fun s i u => ∃ k : Nat, k ≤ N ∧ i = .int .i64 k ∧ s = .int .i64 (coverN ln pf (x, y) k) ∧ Hid (Below w.heap.size w u) ∧ Hid (u.heap[b5]? = some (.cells #[.int .i64 x, .int .i64 y] 38 (0, 0)))) (fun _ i _ => N - (intOf i).toNat)
  case atStart => exact ⟨0, Nat.zero_le _, rfl, rfl, HB, R5⟩
  case round =>
    clear HB R5
    obtain ⟨k, hk, rfl, rfl, HB, R5⟩ := hrel
    have hS := unhide hbd k hk
    by_cases hlt : k < N
    · obtain ⟨s0, o0, xx, cx, rfl, g0, hP⟩ := (unhide L k hlt).next (unhide HB)
      have hw1 := unhide hwb k hlt
      have hs1 := hide (unhide hs0 k)
      have E1 := hide (fun u (hu : Below wr.heap.size wr u) => unhide EW k hlt xx cx u (fun j hj => (hP j hj).next hu))
      generalize windP (ln k) (pf k) (x, y) = wk at hw1 hs1 E1
      generalize coverN ln pf (x, y) k = S at hS hs1 ⊢
      obtain ⟨lk, hlk⟩ : ∃ lk, Hid (ln k = lk) := ⟨_, rfl⟩
      rw [unhide hlk] at g0 E1 hw1
      have w1' : IntKind.i64.wrap (S + wk) = S + wk := IntWalk.i64_in _ (by omega)
      have hki : (k : Int) < (N : Int) := by omega
      have K0 : Hid (∀ u, Below wr.heap.size wr u → (u.cell? ⟨s0, o0 + k, none⟩ = some (.slice xx lk cx) ∧ u.cell? ⟨b5, 0, none⟩ = some (.int .i64 x) ∧ u.cell? ⟨b5, 1, none⟩ = some (.int .i64 y) ∧ Below wr.heap.size wr u)) := fun u h => ⟨kc h g0, (row2 (row_next h (unhide R5))).1, (row2 (row_next h (unhide R5))).2, h⟩
      have kS : Hid (∀ u, (u.cell? ⟨s0, o0 + k, none⟩ = some (.slice xx lk cx) ∧ u.cell? ⟨b5, 0, none⟩ = some (.int .i64 x) ∧ u.cell? ⟨b5, 1, none⟩ = some (.int .i64 y) ∧ Below wr.heap.size wr u) → Below wr.heap.size wr u) := fun u h => h.2.2.2
      clear g0 hP hw1
      go_upto_region 5 with fail
      go_region_held3 (fun u => u.cell? ⟨s0, o0 + k, none⟩ = some (.slice xx lk cx) ∧ u.cell? ⟨b5, 0, none⟩ = some (.int .i64 x) ∧ u.cell? ⟨b5, 1, none⟩ = some (.int .i64 y) ∧ Below wr.heap.size wr u) ((first | with_reducible assumption | (refine unhide K0 _ ?_; first | with_reducible exact (Below.refl _ _).drew | with_reducible assumption))) (first | (go_at_call 101; go_fit (unhide E1 _ (unhide kS _ (by with_reducible assumption))); rintro r w4 ⟨rfl, hb4⟩; have h4 := below_after hb4 (unhide kS _ (by with_reducible assumption)) (Nat.le_refl _)))
      all_goals
        have h9 := unhide kS _ (by with_reducible assumption)
        go_wp2_with fail
        go_roundw
        case rel => exact ⟨k + 1, by omega, by go_num, by rw [unhide hs1], below_two (unhide HB) h9, row_next h9 (unhide R5)⟩
        case measure => simp [intOf]; omega
    · have hke : k = N := by omega
      subst hke
      have hki : ¬ (k : Int) < (k : Int) := by omega
      unfold coversB at hC
      generalize coverN ln pf (x, y) k = S at hS hC ⊢
      cases even with
      | true =>
        have hC2 : Hid (decide (S % 2 ≠ 0) = C) := unhide hC
        by_cases h2 : S.tmod 2 = 0
        · have h3 : S % 2 = 0 := (tm2 S).1 h2
          go_wp2_with fail
          go_ret
          exact ⟨congrArg (fun z => Ending.returned (.bool z)) (by rw [← unhide hC2]; simp [h3]), unhide HB⟩
        · have h3 : ¬ S % 2 = 0 := fun h => h2 ((tm2 S).2 h)
          have h4 : (S.tmod 2 == 0) = false := beq_eq_false_iff_ne.2 h2
          go_wp2_with fail
          go_ret
          exact ⟨congrArg (fun z => Ending.returned (.bool z)) (by rw [← unhide hC2]; simp [h2, h3]), unhide HB⟩
      | false =>
        have hC2 : Hid (decide (S ≠ 0) = C) := unhide hC
        by_cases h2 : S = 0
        · go_wp2_with fail
          go_ret
          exact ⟨congrArg (fun z => Ending.returned (.bool z)) (by rw [← unhide hC2]; simp [h2]), unhide HB⟩
        · have h4 : (S == 0) = false := beq_eq_false_iff_ne.2 h2
          go_wp2_with fail
          go_ret
          exact ⟨congrArg (fun z => Ending.returned (.bool z)) (by rw [← unhide hC2]; simp [h2]), unhide HB⟩

end Go.Proofs.YtfnbemmlafmjlaaGreat
