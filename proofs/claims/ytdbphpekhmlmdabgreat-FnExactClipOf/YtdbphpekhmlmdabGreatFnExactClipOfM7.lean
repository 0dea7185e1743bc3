/-
  MatS · ClipI · SceneL · SceneT · SceneQ · SceneE · MarkP · MarkL: texts of one claim, in one.
-/
import Derived.Test.YtdbphpekhmlmdabGreatFnExactClipOfM5
import Derived.Test.YtdbphpekhmlmdabGreatFnExactClipOfM6
import Derived.Deep.RegionHeld3
import Derived.Deep.DeepCutAuto
import Derived.Deep.DeepFit
import Derived.Test.YtdbphpekhmlmdabGreatFnExactClipOfM1

/-
  The specification's MatOf. (By mati.py.)
-/
namespace Go.Proofs.YtdbphpekhmlmdabGreat
open Go.RowKit
set_option linter.unusedVariables false

theorem matM_z {X : Nat → Nd} {n : Nat} (hS : ScOk X n) (f : Nat) (m : M6) : upM X n f 0 m = (m, true) := upM_none (scOk_noZ hS) f m

set_option maxHeartbeats 8000000 in
set_option maxRecDepth 100000 in
theorem specMatOf_any (X : Nat → Nd) (A : Nat → Na) (ao : Option Addr) (n cp : Nat) (hn : n ≤ 1048576) (hs : ∀ i, i < n → (X i).Small) (id : Int) (w : World) (P : ∀ i, i < n → NrAt w ao i (X i) (A i)) :
    Calls Tryz.prog 18 #[.agg #[.slice ao n cp], .int .i64 id] w fun r w' => r = .returned (.tuple #[.agg (mC (matM X n id).1), .bool (matM X n id).2]) ∧ Below w.heap.size w w' := by
  have E1 := hide (fun u (hu : Below w.heap.size w u) => specSceneOk_any X A ao n cp hn hs u (fun i hi => (P i hi).next hu))
  have E2 := hide (fun z u (hu : Below w.heap.size w u) => specNodeAt_any X A ao n cp hn z u (fun i hi => (P i hi).next hu))
  have hbad := hide (fun (h : sceneOkB X n = false) => matM_bad (id := id) h)
  have hnone := hide (fun (h : firstN X id n < 0) => matM_none (X := X) (n := n) h)
  have hyes := hide (fun (h1 : sceneOkB X n = true) (h : ¬ firstN X id n < 0) => matM_is h1 h)
  obtain ⟨R, hR⟩ : ∃ R, Hid (matM X n id = R) := ⟨_, rfl⟩
  rw [unhide hR] at hbad hnone hyes ⊢
  have NN := hide (fun u (hu : Below w.heap.size w u) i (hi : i < n) => (P i hi).next hu)
  clear P hs hR
  go_enter Tryz.func18, Tryz.ntmps18
  go_upto_region 1 with fail
  have R2 := hide (al2_0 w (.cells #[.slice ao n cp] 30) (.cells #[.int .i64 0, .int .i64 0, .int .i64 0, .int .i64 0, .int .i64 0, .int .i64 0] 43))
  have R4 := hide (show ((w.alloc (.cells #[.slice ao n cp] 30)).alloc (.cells #[.int .i64 0, .int .i64 0, .int .i64 0, .int .i64 0, .int .i64 0, .int .i64 0] 43)).heap[w.heap.size + 1]? = some (.cells (mC zero6) 43 (0, 0)) from al2_1 w (.cells #[.slice ao n cp] 30) (.cells #[.int .i64 0, .int .i64 0, .int .i64 0, .int .i64 0, .int .i64 0, .int .i64 0] 43))
  have HB := hide (al2_below w (.cells #[.slice ao n cp] 30) (.cells #[.int .i64 0, .int .i64 0, .int .i64 0, .int .i64 0, .int .i64 0, .int .i64 0] 43))
  have l4 := hide (show w.heap.size + 1 < ((w.alloc (.cells #[.slice ao n cp] 30)).alloc (.cells #[.int .i64 0, .int .i64 0, .int .i64 0, .int .i64 0, .int .i64 0, .int .i64 0] 43)).heap.size by rw [al1_size, al1_size]; omega)
  generalize (w.alloc (.cells #[.slice ao n cp] 30)).alloc (.cells #[.int .i64 0, .int .i64 0, .int .i64 0, .int .i64 0, .int .i64 0, .int .i64 0] 43) = W at R2 R4 HB l4 ⊢
  obtain ⟨b2, hb2⟩ : ∃ b, Hid (b = w.heap.size) := ⟨_, rfl⟩
  rw [← unhide hb2] at R2 R4 ⊢
  have l2 := hide (show w.heap.size ≤ b2 ∧ b2 + 1 < W.heap.size by rw [unhide hb2]; exact ⟨Nat.le_refl _, unhide l4⟩)
  clear hb2 l4
  have c2 := row1 (unhide R2)
  go_wp2_with fail
  go_fit (unhide E1 _ (unhide HB))
  rintro r w1 ⟨rfl, hb⟩
  replace R2 := hide (row_next hb (unhide R2))
  replace R4 := hide (row_next hb (unhide R4))
  replace HB := hide (below_two (unhide HB) hb)
  replace l2 := hide (show w.heap.size ≤ b2 ∧ b2 + 1 < w1.heap.size from ⟨(unhide l2).1, Nat.lt_of_lt_of_le (unhide l2).2 hb.size⟩)
  clear hb c2 E1
  cases hok : sceneOkB X n with
  | false =>
    have hR := hide (unhide hbad hok)
    clear hbad hok hnone hyes
    have HB2 := hide (below_setRow (unhide HB) (show w.heap.size ≤ b2 + 1 by have := unhide l2; omega) (mC zero6))
    have R4s := hide (mrow_set (C := mC zero6) (unhide R4))
    (try go_wp2_with (refine mat_put rfl _ _ rfl (b2 + 1) (mC zero6) zero6 rfl rfl (unhide R4) rfl ?_))
    generalize w1.setRow (b2 + 1) (mC zero6) = W2 at HB2 R4s ⊢
    obtain ⟨c0, c1, c2, c3, c4, c5⟩ := mcells (unhide R4s)
    go_wp2_with fail
    refine bodyPost_ret (v := .tuple #[.agg (mC zero6), .bool false]) (by simp [results, Tryz.results18, go_sem, c0, c1, c2, c3, c4, c5, mC]) rfl ⟨by rw [unhide hR], ?_⟩
    exact unhide HB2
  | true =>
    have hS := sceneOk_iff.1 hok
    replace hyes := hide (unhide hyes hok)
    clear hok hbad
    obtain ⟨b, o, hao⟩ : ∃ b o, n = 0 ∨ ao = some ⟨b, o, none⟩ := by
      rcases Nat.eq_zero_or_pos n with h0 | h0
      · exact ⟨0, 0, .inl h0⟩
      · obtain ⟨b, o, h, _⟩ := (unhide NN _ (Below.refl _ _) 0 h0).range
        exact ⟨b, o, .inr h⟩
    have c2 := row1 (unhide R2)
    have E3 := hide (unhide E2 id _ (unhide HB))
    obtain ⟨z0, hz0⟩ : ∃ z, Hid (firstN X id n = z) := ⟨_, rfl⟩
    rw [unhide hz0] at E3
    go_wp2_with fail
    go_fit (unhide E3)
    rintro r w2 ⟨rfl, hb⟩
    replace R2 := hide (row_next hb (unhide R2))
    replace R4 := hide (row_next hb (unhide R4))
    replace HB := hide (below_two (unhide HB) hb)
    replace l2 := hide (show w.heap.size ≤ b2 ∧ b2 + 1 < w2.heap.size from ⟨(unhide l2).1, Nat.lt_of_lt_of_le (unhide l2).2 hb.size⟩)
    clear hb c2 E3
    by_cases hz : z0 < 0
    · have hR := hide (unhide hnone (by rw [unhide hz0]; exact hz))
      clear hnone hyes hz0
      have HB2 := hide (below_setRow (unhide HB) (show w.heap.size ≤ b2 + 1 by have := unhide l2; omega) (mC zero6))
      have R4s := hide (mrow_set (C := mC zero6) (unhide R4))
      (try go_wp2_with (refine mat_put rfl _ _ rfl (b2 + 1) (mC zero6) zero6 rfl rfl (unhide R4) rfl ?_))
      generalize w2.setRow (b2 + 1) (mC zero6) = W2 at HB2 R4s ⊢
      obtain ⟨c0, c1, c2, c3, c4, c5⟩ := mcells (unhide R4s)
      go_wp2_with fail
      refine bodyPost_ret (v := .tuple #[.agg (mC zero6), .bool false]) (by simp [results, Tryz.results18, go_sem, c0, c1, c2, c3, c4, c5, mC]) rfl ⟨by rw [unhide hR], ?_⟩
      exact unhide HB2
    · have hf : ¬ firstN X id n < 0 := by rw [unhide hz0]; exact hz
      have hR := hide (unhide hyes (by omega)).symm
      obtain ⟨k, hk, hfk, hik⟩ := first_lt hf
      have hst := hide (show id = 0 ∨ ∃ j : Nat, j < n ∧ firstN X id n = (j : Int) from .inr ⟨k, hk, hfk⟩)
      rcases hao with h0 | hao
      · omega
      subst hao
      clear hnone hyes hz0 hf hfk hik
      replace hS := hide hS
      go_wp2_with fail
      go_fit (specStill_any _)
      rintro r w3 ⟨rfl, hb⟩
      replace R2 := hide (row_next hb (unhide R2))
      replace R4 := hide (row_next hb (unhide R4))
      replace HB := hide (below_two (unhide HB) hb)
      replace l2 := hide (show w.heap.size ≤ b2 ∧ b2 + 1 < w3.heap.size from ⟨(unhide l2).1, Nat.lt_of_lt_of_le (unhide l2).2 hb.size⟩)
      clear hb
      go_upto_region 4 with (refine mat_new rfl _ _ rfl _ still6 rfl rfl rfl ?_)
      have R6 := hide (new_row w3 (.cells (mC still6) 43))
      replace R2 := hide (row_next (al1_below w3 (.cells (mC still6) 43)) (unhide R2))
      replace R4 := hide (row_next (al1_below w3 (.cells (mC still6) 43)) (unhide R4))
      replace HB := hide (below_two (unhide HB) (al1_below w3 (.cells (mC still6) 43)))
      generalize w3.alloc (.cells (mC still6) 43) = W4 at R2 R4 R6 HB ⊢
      obtain ⟨b6, hb6⟩ : ∃ b, Hid (b = w3.heap.size) := ⟨_, rfl⟩
      rw [← unhide hb6] at R6 ⊢
      have l6 := hide (show w.heap.size ≤ b2 ∧ b2 + 1 < b6 by rw [unhide hb6]; exact unhide l2)
      clear hb6 l2
      go_upto_region 5 with fail
      go_loopw [7, 1] (fun i v u => ∃ (k f : Nat) (z : Int) (m : M6), k + f = 4 ∧ i = .int .i64 (k : Int) ∧ v = .int .i64 z ∧ Hid (upM X n f z m = R) ∧ Hid (z = 0 ∨ ∃ j : Nat, j < n ∧ firstN X z n = (j : Int)) ∧ Hid (u.heap[b2]? = some (.cells #[.slice (some ⟨b, o, none⟩) n cp] 30 (0, 0))) ∧ Hid (u.heap[b2 + 1]? = some (.cells (mC zero6) 43 (0, 0))) ∧ Hid (u.heap[b6]? = some (.cells (mC m) 43 (0, 0))) ∧ Hid (Below w.heap.size w u)) (fun i _ _ => 4 - (intOf i).toNat)
      case atStart => exact ⟨0, 4, id, still6, rfl, rfl, rfl, hR, hst, R2, R4, R6, HB⟩
      case round =>
        clear hR hst R2 R4 R6 HB
        obtain ⟨k, f, z, m, hkf, rfl, rfl, hR, hst, R2, R4, R6, HB⟩ := hrel
        by_cases hend : z = 0 ∨ f = 0
        · have hR' : Hid (R = (m, true)) := by
            rcases hend with h0 | h0
            · rw [← unhide hR, h0]; exact matM_z (unhide hS) f m
            · rw [← unhide hR, h0]; rfl
          have h6 := hide (mat_rng (unhide R6))
          have HB2 := hide (below_setRow (unhide HB) (show w.heap.size ≤ b2 + 1 by have := unhide l6; omega) (mC m))
          have R4s := hide (mrow_set (C := mC m) (unhide R4))
          by_cases h4 : f = 0
          · have hk4 : ¬ ((k : Int) < 4) := by omega
            clear hR hend hst
            (try go_wp2_with (first | with_reducible refine load_mat rfl _ rfl b6 0 rfl m (unhide h6) ?_ | refine mat_put rfl _ _ rfl (b2 + 1) (mC zero6) m rfl rfl (unhide R4) rfl ?_))
            generalize wr.setRow (b2 + 1) (mC m) = W2 at HB2 R4s ⊢
            obtain ⟨c0, c1, c2, c3, c4, c5⟩ := mcells (unhide R4s)
            go_wp2_with fail
            refine bodyPost_ret (v := .tuple #[.agg (mC m), .bool true]) (by simp [results, Tryz.results18, go_sem, c0, c1, c2, c3, c4, c5, mC]) rfl ⟨by rw [unhide hR'], ?_⟩
            exact unhide HB2
          · have hk4 : (k : Int) < 4 := by omega
            obtain rfl : z = 0 := hend.resolve_right h4
            clear hR hend hst
            (try go_wp2_with (first | with_reducible refine load_mat rfl _ rfl b6 0 rfl m (unhide h6) ?_ | refine mat_put rfl _ _ rfl (b2 + 1) (mC zero6) m rfl rfl (unhide R4) rfl ?_))
            generalize wr.setRow (b2 + 1) (mC m) = W2 at HB2 R4s ⊢
            obtain ⟨c0, c1, c2, c3, c4, c5⟩ := mcells (unhide R4s)
            go_wp2_with fail
            refine bodyPost_ret (v := .tuple #[.agg (mC m), .bool true]) (by simp [results, Tryz.results18, go_sem, c0, c1, c2, c3, c4, c5, mC]) rfl ⟨by rw [unhide hR'], ?_⟩
            exact unhide HB2
        · have hz0 : z ≠ 0 := fun e => hend (.inl e)
          obtain ⟨g, rfl⟩ : ∃ g, f = g + 1 := ⟨f - 1, by omega⟩
          obtain ⟨j, hj, hfj⟩ := (unhide hst).resolve_left hz0
          have hk4 : (k : Int) < 4 := by omega
          have hzb : (z != 0) = true := by simpa using hz0
          have hRy := hide (fun (hc : comp6k (X j).mat m = true) => (upM_yes hfj (f := g) hc).symm.trans (unhide hR))
          have hRn := hide (fun (hc : comp6k (X j).mat m = false) => (upM_no hfj (f := g) hc).symm.trans (unhide hR))
          have ENA := hide (fun u (hu : Below wr.heap.size wr u) => (unhide E2 z u (below_two (unhide HB) hu)).mono fun r w' h => show r = .returned (.int .i64 (j : Int)) ∧ Below u.heap.size u w' by rw [hfj] at h; exact h)
          have hnx := hide (show (X j).par = 0 ∨ ∃ i : Nat, i < n ∧ firstN X (X j).par n = (i : Int) by
            rcases above (unhide hS) hj with ⟨_, h⟩ | ⟨i, h1, h2, _⟩
            · exact .inl h
            · exact .inr ⟨i, h1, h2⟩)
          have hRX0 := hide (fun u (hu : Below wr.heap.size wr u) => show u.rangeAt b (o + j * 31) (ndC (X j) (A j)).toList by
            obtain ⟨b', o', e, h⟩ := (unhide NN u (below_two (unhide HB) hu) j hj).range
            cases e
            exact h)
          obtain ⟨xx, hxx⟩ : ∃ z, Hid (X j = z) := ⟨_, rfl⟩
          obtain ⟨ss, hss⟩ : ∃ z, Hid (A j = z) := ⟨_, rfl⟩
          rw [unhide hxx, unhide hss] at hRX0
          rw [unhide hxx] at hRy hRn hnx
          have hRX := hRX0
          have hj' : (j : Int) < (n : Int) := by omega
          have hS7 := hide (fun u (hu : Below wr.heap.size wr u) => show Hid (Below wr.heap.size wr u) ∧ u.cell? ⟨b2, 0, none⟩ = some (.slice (some ⟨b, o, none⟩) n cp) from ⟨hu, row1 (row_next hu (unhide R2))⟩)
          clear hR hst hend hfj hxx hss
          go_upto_region 7 with fail
          clear hzb hz0
          go_cut [8] (fun s u => ∃ q, s = .pointer (some ⟨q, 0, none⟩) ∧ Hid (wr.heap.size ≤ q) ∧ Hid (u.heap[q]? = some (.cells (ndC xx ss) 59 (0, 0))) ∧ Hid (Below wr.heap.size wr u))
          case first =>
            refine wp_region_held_drew (S := (fun u => Hid (Below wr.heap.size wr u) ∧ u.cell? ⟨b2, 0, none⟩ = some (.slice (some ⟨b, o, none⟩) n cp))) (by kernel_rfl) ?_ (fun hHeld => ?_)
            · exact unhide hS7 _ (Below.refl _ _).drew
            have HU := hide (show Below wr.heap.size wr wr.drew from (Below.refl _ _).drew)
            generalize wr.drew = V8 at HU hHeld ⊢
            refine wpAnyH_take (i := 0) (oi := { dst := some 30, op := Op.fieldAddr 30 (Operand.tmp 2) 0, type := 0, pos := "l17_shape.go:11", after := #[], guard := none }) (v := ?_) rfl (by kernel_rfl) (by kernel_rfl) (by kernel_rfl) (fun _ _ _ h => h) (Or.inl ⟨by rfl, ?_⟩) (by assumption) ?_
            rotate_left
            · intro w hSw; (try dsimp only at hSw); go_simp <;> with_reducible rfl
            try simp only [Act.put, List.setIfInBounds_toArray, List.set_cons_zero, List.set_cons_succ]
            refine wpAnyH_take (i := 1) (oi := { dst := some 31, op := Op.load 28 (Operand.tmp 30), type := 28, pos := "l17_shape.go:11", after := #[{ on := 0, ground := Ground.data }], guard := none }) (v := ?_) rfl (by kernel_rfl) (by kernel_rfl) (by kernel_rfl) (fun _ _ _ h => h) (Or.inl ⟨by rfl, ?_⟩) (by assumption) ?_
            rotate_left
            · intro w hSw; (try dsimp only at hSw); go_simp <;> with_reducible rfl
            try simp only [Act.put, List.setIfInBounds_toArray, List.set_cons_zero, List.set_cons_succ]
            refine wpAnyH_take (i := 2) (oi := { dst := some 32, op := Op.load 30 (Operand.tmp 2), type := 30, pos := "l17_shape.go:11", after := #[], guard := none }) (v := ?_) rfl (by kernel_rfl) (by kernel_rfl) (by kernel_rfl) (fun _ _ _ h => h) (Or.inl ⟨by rfl, ?_⟩) (by assumption) ?_
            rotate_left
            · intro w hSw; (try dsimp only at hSw); go_simp <;> with_reducible rfl
            try simp only [Act.put, List.setIfInBounds_toArray, List.set_cons_zero, List.set_cons_succ]
            refine wpAnyH_take (i := 3) (oi := { dst := some 33, op := Op.move (Operand.tmp 1), type := 3, pos := "l17_shape.go:11", after := #[], guard := none }) (v := ?_) rfl (by kernel_rfl) (by kernel_rfl) (by kernel_rfl) (fun _ _ _ h => h) (Or.inl ⟨by rfl, ?_⟩) (by assumption) ?_
            rotate_left
            · intro w hSw; (try dsimp only at hSw); go_simp <;> with_reducible rfl
            try simp only [Act.put, List.setIfInBounds_toArray, List.set_cons_zero, List.set_cons_succ]
            refine wpAnyH_ready (rs := [4, 7]) (by kernel_rfl) (by simp) ?_
            refine AllReadyH.cons (o := { dst := some 34, op := Op.call { callee := Callee.value (Operand.func 21), args := #[Operand.tmp 32, Operand.tmp 33], argTypes := #[30, 3] }, type := 3, pos := "l17_shape.go:11", after := #[{ on := 2, ground := Ground.data }, { on := 3, ground := Ground.data }], guard := none }) rfl (fun K hK => ?_) ?_
            · go_simp
              (go_at_call 21; go_fit (unhide ENA _ (unhide HU)); rintro r VA ⟨rfl, hb9⟩)
              replace HU := hide (below_two (unhide HU) hb9)
              clear hb9
              refine hK.out _ _ ?_ (fun hHeld => ?_)
              · exact unhide hS7 _ (unhide HU)
              clear hK K
              try simp only [Act.put, List.setIfInBounds_toArray, List.set_cons_zero, List.set_cons_succ]
              refine wpAnyH_take (i := 5) (oi := { dst := some 35, op := Op.indexAddr 28 (Operand.tmp 31) (Operand.tmp 34), type := 0, pos := "l17_shape.go:11", after := #[{ on := 1, ground := Ground.data }, { on := 4, ground := Ground.data }], guard := none }) (v := ?_) rfl (by kernel_rfl) (by kernel_rfl) (by kernel_rfl) (fun _ _ _ h => h) (Or.inl ⟨by rfl, ?_⟩) (by assumption) ?_
              rotate_left
              · intro w hSw; (try dsimp only at hSw); go_simp <;> with_reducible rfl
              try simp only [Act.put, List.setIfInBounds_toArray, List.set_cons_zero, List.set_cons_succ]
              refine wpAnyH_take (i := 6) (oi := { dst := some 36, op := Op.load 59 (Operand.tmp 35), type := 59, pos := "l17_shape.go:11", after := #[{ on := 5, ground := Ground.data }], guard := none }) (v := .agg (ndC xx ss)) rfl (by kernel_rfl) (by kernel_rfl) (by kernel_rfl) (fun _ _ _ h => h) (ynode rfl _ rfl b (o + j * 31) rfl xx ss (fun u hu => unhide hRX u (unhide hu.1))) (by assumption) ?_
              try simp only [Act.put, List.setIfInBounds_toArray, List.set_cons_zero, List.set_cons_succ]
              refine wpAnyH_ready (rs := [7]) (by kernel_rfl) (by simp) ?_
              refine AllReadyH.cons (o := { dst := some 8, op := Op.alloc 59, type := 0, pos := "l17_shape.go:11", after := #[], guard := none }) rfl (fun K hK => ?_) AllReadyH.nil
              refine nstep_alloc rfl rfl (fun Z hZ => ?_)
              have R8 := hide (new_row VA (.cells Z 59))
              have l8 := hide (show wr.heap.size ≤ VA.heap.size from (unhide HU).size)
              replace HU := hide (below_two (unhide HU) (al1_below VA (.cells Z 59)))
              generalize VA.alloc (.cells Z 59) = VB at HU R8 ⊢
              generalize VA.heap.size = b8 at R8 l8 ⊢
              refine hK.out _ _ ?_ (fun hHeld => ?_)
              · exact unhide hS7 _ (unhide HU)
              clear hK K
              try simp only [Act.put, List.setIfInBounds_toArray, List.set_cons_zero, List.set_cons_succ]
              refine wpAnyH_ready (rs := [8]) (by kernel_rfl) (by simp) ?_
              refine AllReadyH.cons (o := { dst := none, op := Op.store 59 (Operand.tmp 8) (Operand.tmp 36), type := 0, pos := "l17_shape.go:11", after := #[{ on := 7, ground := Ground.data }, { on := 6, ground := Ground.data }, { on := 4, ground := Ground.chain }, { on := 0, ground := Ground.phase }, { on := 1, ground := Ground.phase }, { on := 2, ground := Ground.phase }, { on := 3, ground := Ground.phase }, { on := 4, ground := Ground.phase }, { on := 5, ground := Ground.phase }, { on := 6, ground := Ground.phase }, { on := 7, ground := Ground.phase }], guard := none }) rfl (fun K hK => ?_) AllReadyH.nil
              refine nstep_store rfl _ _ rfl rfl rfl (unhide R8) hZ ?_
              replace R8 := hide (mrow_set (C := ndC xx ss) (unhide R8))
              replace HU := hide (below_setRow (unhide HU) (unhide l8) (ndC xx ss))
              generalize VB.setRow b8 (ndC xx ss) = WL at R8 HU ⊢
              refine hK.out _ _ ?_ (fun hHeld => ?_)
              · exact unhide hS7 _ (unhide HU)
              clear hK K
              try simp only [Act.put]
              refine wpAnyH_done (by kernel_rfl) ?_ _
              go_wp2_with fail
              go_meet
              exact ⟨b8, rfl, l8, R8, HU⟩
            refine AllReadyH.cons (o := { dst := some 8, op := Op.alloc 59, type := 0, pos := "l17_shape.go:11", after := #[], guard := none }) rfl (fun K hK => ?_) ?_
            · refine nstep_alloc rfl rfl (fun Z hZ => ?_)
              have R8 := hide (new_row V8 (.cells Z 59))
              have l8 := hide (show wr.heap.size ≤ V8.heap.size from (unhide HU).size)
              replace HU := hide (below_two (unhide HU) (al1_below V8 (.cells Z 59)))
              generalize V8.alloc (.cells Z 59) = VA at HU R8 ⊢
              generalize V8.heap.size = b8 at R8 l8 ⊢
              refine hK.out _ _ ?_ (fun hHeld => ?_)
              · exact unhide hS7 _ (unhide HU)
              clear hK K
              try simp only [Act.put, List.setIfInBounds_toArray, List.set_cons_zero, List.set_cons_succ]
              refine wpAnyH_ready (rs := [4]) (by kernel_rfl) (by simp) ?_
              refine AllReadyH.cons (o := { dst := some 34, op := Op.call { callee := Callee.value (Operand.func 21), args := #[Operand.tmp 32, Operand.tmp 33], argTypes := #[30, 3] }, type := 3, pos := "l17_shape.go:11", after := #[{ on := 2, ground := Ground.data }, { on := 3, ground := Ground.data }], guard := none }) rfl (fun K hK => ?_) AllReadyH.nil
              go_simp
              (go_at_call 21; go_fit (unhide ENA _ (unhide HU)); rintro r VB ⟨rfl, hb9⟩)
              replace R8 := hide (row_next hb9 (unhide R8))
              replace HU := hide (below_two (unhide HU) hb9)
              clear hb9
              refine hK.out _ _ ?_ (fun hHeld => ?_)
              · exact unhide hS7 _ (unhide HU)
              clear hK K
              try simp only [Act.put, List.setIfInBounds_toArray, List.set_cons_zero, List.set_cons_succ]
              refine wpAnyH_take (i := 5) (oi := { dst := some 35, op := Op.indexAddr 28 (Operand.tmp 31) (Operand.tmp 34), type := 0, pos := "l17_shape.go:11", after := #[{ on := 1, ground := Ground.data }, { on := 4, ground := Ground.data }], guard := none }) (v := ?_) rfl (by kernel_rfl) (by kernel_rfl) (by kernel_rfl) (fun _ _ _ h => h) (Or.inl ⟨by rfl, ?_⟩) (by assumption) ?_
              rotate_left
              · intro w hSw; (try dsimp only at hSw); go_simp <;> with_reducible rfl
              try simp only [Act.put, List.setIfInBounds_toArray, List.set_cons_zero, List.set_cons_succ]
              refine wpAnyH_take (i := 6) (oi := { dst := some 36, op := Op.load 59 (Operand.tmp 35), type := 59, pos := "l17_shape.go:11", after := #[{ on := 5, ground := Ground.data }], guard := none }) (v := .agg (ndC xx ss)) rfl (by kernel_rfl) (by kernel_rfl) (by kernel_rfl) (fun _ _ _ h => h) (ynode rfl _ rfl b (o + j * 31) rfl xx ss (fun u hu => unhide hRX u (unhide hu.1))) (by assumption) ?_
              try simp only [Act.put, List.setIfInBounds_toArray, List.set_cons_zero, List.set_cons_succ]
              refine wpAnyH_ready (rs := [8]) (by kernel_rfl) (by simp) ?_
              refine AllReadyH.cons (o := { dst := none, op := Op.store 59 (Operand.tmp 8) (Operand.tmp 36), type := 0, pos := "l17_shape.go:11", after := #[{ on := 7, ground := Ground.data }, { on := 6, ground := Ground.data }, { on := 4, ground := Ground.chain }, { on := 0, ground := Ground.phase }, { on := 1, ground := Ground.phase }, { on := 2, ground := Ground.phase }, { on := 3, ground := Ground.phase }, { on := 4, ground := Ground.phase }, { on := 5, ground := Ground.phase }, { on := 6, ground := Ground.phase }, { on := 7, ground := Ground.phase }], guard := none }) rfl (fun K hK => ?_) AllReadyH.nil
              refine nstep_store rfl _ _ rfl rfl rfl (unhide R8) hZ ?_
              replace R8 := hide (mrow_set (C := ndC xx ss) (unhide R8))
              replace HU := hide (below_setRow (unhide HU) (unhide l8) (ndC xx ss))
              generalize VB.setRow b8 (ndC xx ss) = WL at R8 HU ⊢
              refine hK.out _ _ ?_ (fun hHeld => ?_)
              · exact unhide hS7 _ (unhide HU)
              clear hK K
              try simp only [Act.put]
              refine wpAnyH_done (by kernel_rfl) ?_ _
              go_wp2_with fail
              go_meet
              exact ⟨b8, rfl, l8, R8, HU⟩
            exact AllReadyH.nil
          case rest =>
          obtain ⟨b8, rfl, l8, R8, HU⟩ := hcut
          replace R2 := hide (row_next (unhide HU) (unhide R2))
          replace R4 := hide (row_next (unhide HU) (unhide R4))
          replace l8 := hide (show b6 < b8 from Nat.lt_of_lt_of_le (heap_lt (unhide R6)) (unhide l8))
          replace R6 := hide (row_next (unhide HU) (unhide R6))
          replace HB := hide (below_two (unhide HB) (unhide HU))
          clear HU hRX hS7 ENA hRX0
          obtain ⟨M, hM⟩ : ∃ z, Hid (xx.mat = z) := ⟨_, rfl⟩
          rw [unhide hM] at hRy hRn
          have h8 := hide (show wc.rangeAt b8 3 (mC M).toList by
            rw [← unhide hM]
            have h := nd_mat (o := 0) (mat_rng (unhide R8))
            exact h)
          have h6 := hide (mat_rng (unhide R6))
          go_wp2_with (first | with_reducible refine load_mat rfl _ rfl b8 3 rfl M (unhide h8) ?_ | with_reducible refine load_mat rfl _ rfl b6 0 rfl m (unhide h6) ?_)
          go_fit (specCompose_m M m _)
          rintro r w5 ⟨rfl, hb⟩
          replace R2 := hide (row_next hb (unhide R2))
          replace R4 := hide (row_next hb (unhide R4))
          replace R6 := hide (row_next hb (unhide R6))
          replace R8 := hide (row_next hb (unhide R8))
          replace HB := hide (below_two (unhide HB) hb)
          clear hb h8 h6
          go_upto_region 9 with (refine mat_new rfl _ _ rfl _ (comp6 M m) rfl rfl rfl ?_)
          have R9 := hide (new_row w5 (.cells (mC (comp6 M m)) 43))
          have hb := al1_below w5 (.cells (mC (comp6 M m)) 43)
          replace R2 := hide (row_next hb (unhide R2))
          replace R4 := hide (row_next hb (unhide R4))
          replace R6 := hide (row_next hb (unhide R6))
          replace R8 := hide (row_next hb (unhide R8))
          replace HB := hide (below_two (unhide HB) hb)
          clear hb
          generalize w5.alloc (.cells (mC (comp6 M m)) 43) = W5 at R2 R4 R6 R8 R9 HB ⊢
          generalize w5.heap.size = b9 at R9 ⊢
          cases hc : comp6k M m with
          | false =>
            have hR := hide (unhide hRn hc).symm
            clear hRn hRy hc
            have HB2 := hide (below_setRow (unhide HB) (show w.heap.size ≤ b2 + 1 by have := unhide l6; omega) (mC zero6))
            have R4s := hide (mrow_set (C := mC zero6) (unhide R4))
            (try go_wp2_with (refine mat_put rfl _ _ rfl (b2 + 1) (mC zero6) zero6 rfl rfl (unhide R4) rfl ?_))
            generalize W5.setRow (b2 + 1) (mC zero6) = W2 at HB2 R4s ⊢
            obtain ⟨c0, c1, c2, c3, c4, c5⟩ := mcells (unhide R4s)
            go_wp2_with fail
            refine bodyPost_ret (v := .tuple #[.agg (mC zero6), .bool false]) (by simp [results, Tryz.results18, go_sem, c0, c1, c2, c3, c4, c5, mC]) rfl ⟨by rw [unhide hR], ?_⟩
            exact unhide HB2
          | true =>
            have hR := hide (unhide hRy hc)
            clear hRn hRy hc
            have h9 := hide (mat_rng (unhide R9))
            have HB2 := hide (below_setRow (unhide HB) (show w.heap.size ≤ b6 by have := unhide l6; omega) (mC (comp6 M m)))
            have R6s := hide (mrow_set (C := mC (comp6 M m)) (unhide R6))
            have R2s := hide ((mrow_other (C := mC (comp6 M m)) (u := W5) (show b2 ≠ b6 by have := unhide l6; omega)).trans (unhide R2))
            have R4s := hide ((mrow_other (C := mC (comp6 M m)) (u := W5) (show b2 + 1 ≠ b6 by have := unhide l6; omega)).trans (unhide R4))
            have R8s := hide ((mrow_other (C := mC (comp6 M m)) (u := W5) (show b8 ≠ b6 by have := unhide l8; omega)).trans (unhide R8))
            go_upto_region 12 with (first | with_reducible refine load_mat rfl _ rfl b9 0 rfl (comp6 M m) (unhide h9) ?_ | refine mat_put rfl _ _ rfl b6 (mC m) (comp6 M m) rfl rfl (unhide R6) rfl ?_)
            clear h9 R2 R4 R6 R8 R9 HB
            generalize W5.setRow b6 (mC (comp6 M m)) = W7 at HB2 R6s R2s R4s R8s ⊢
            have cp8 := (nheads (unhide R8s)).2
            go_wp2_with fail
            go_roundw
            case rel => exact ⟨k + 1, g, xx.par, _, by omega, by go_num, rfl, hR, hnx, R2s, R4s, R6s, HB2⟩
            case measure => simp [intOf]; omega
end Go.Proofs.YtdbphpekhmlmdabGreat

/-
  ClipOf of both sides. (By clipi.py.)
-/
namespace Go.Proofs.YtdbphpekhmlmdabGreat
open Go.RowKit
set_option linter.unusedVariables false

noncomputable def clipL (X : Nat → Nd) (n : Nat) (id : Int) : List (List Pt) := if (matM X n id).2 = true then linesM (matM X n id).1 (X (firstN X id n).toNat).wf (X (firstN X id n).toNat).mv (X (firstN X id n).toNat).qf (X (firstN X id n).toNat).mp else []
theorem clip_no {X : Nat → Nd} {n : Nat} {id : Int} (h : (matM X n id).2 = false) : clipL X n id = [] := by unfold clipL; rw [if_neg (by rw [h]; exact Bool.false_ne_true)]
theorem mat_found {X : Nat → Nd} {n : Nat} {id : Int} (h : (matM X n id).2 = true) : ∃ k : Nat, k < n ∧ firstN X id n = (k : Int) := by
  by_cases hf : firstN X id n < 0
  · rw [matM_none hf] at h; cases h
  · obtain ⟨k, hk, e, _⟩ := first_lt hf
    exact ⟨k, hk, e⟩
theorem clip_yes {X : Nat → Nd} {n : Nat} {id : Int} (h : (matM X n id).2 = true) : ∃ k : Nat, k < n ∧ firstN X id n = (k : Int) ∧ clipL X n id = linesM (matM X n id).1 (X k).wf (X k).mv (X k).qf (X k).mp := by
  obtain ⟨k, hk, e⟩ := mat_found h
  refine ⟨k, hk, e, ?_⟩
  unfold clipL
  rw [if_pos h, e, Int.toNat_natCast]
theorem clip_small (X : Nat → Nd) (n : Nat) (id : Int) : (clipL X n id).length ≤ 100 ∧ ∀ l ∈ clipL X n id, l.length ≤ 1000 := by
  unfold clipL
  split
  · exact linesM_small ..
  · simp

set_option maxHeartbeats 8000000 in
set_option maxRecDepth 100000 in
theorem implClipOf_any (X : Nat → Nd) (A : Nat → Na) (ao : Option Addr) (n cp : Nat) (hn : n ≤ 1048576) (hs : ∀ i, i < n → (X i).Small) (hk : ∀ i, i < n → Caps (X i) (A i)) (hw1 : ∀ i, i < n → (Lit.int .i64 (X i).id).wf = true) (hw2 : ∀ i, i < n → (Lit.int .i64 (X i).par).wf = true) (id : Int) (hid : (Lit.int .i64 id).wf = true) (w : World) (P : ∀ i, i < n → NrAt w ao i (X i) (A i)) :
    Calls Tryz.prog 8 #[.agg #[.slice ao n cp], .int .i64 id] w fun r w' => ∃ v, r = .returned v ∧ LinesV w' w.heap.size v (clipL X n id) ∧ Below w.heap.size w w' := by
  have E1 := hide (fun u (hu : Below w.heap.size w u) => implMatOf_any X A ao n cp hn hs hw1 hw2 id hid u (fun i hi => (P i hi).next hu))
  have E2 := hide (fun u (hu : Below w.heap.size w u) => implNodeAt_any X A ao n cp hn id u (fun i hi => (P i hi).next hu))
  have NN := hide (fun u (hu : Below w.heap.size w u) i (hi : i < n) => (P i hi).next hu)
  have hno := hide (fun (h : (matM X n id).2 = false) => clip_no h)
  have hyes := hide (fun (h : (matM X n id).2 = true) => clip_yes h)
  replace hs := hide hs
  replace hk := hide hk
  obtain ⟨m1, y1, hR⟩ : ∃ m y, Hid (matM X n id = (m, y)) := ⟨_, _, rfl⟩
  rw [unhide hR] at E1 hno hyes
  dsimp only at E1 hno hyes
  obtain ⟨L, hL⟩ : ∃ L, Hid (clipL X n id = L) := ⟨_, rfl⟩
  rw [unhide hL] at hno hyes ⊢
  clear P hR hL
  go_enter Tryz.func8, Tryz.ntmps8
  go_upto_region 1 with fail
  have R2 := hide (new_row w (.cells #[.slice ao n cp] 30))
  have HB := hide (al1_below w (.cells #[.slice ao n cp] 30))
  generalize w.alloc (.cells #[.slice ao n cp] 30) = W at R2 HB ⊢
  obtain ⟨b2, hb2⟩ : ∃ b, Hid (b = w.heap.size) := ⟨_, rfl⟩
  rw [← unhide hb2] at R2 ⊢
  clear hb2
  have c2 := row1 (unhide R2)
  go_wp2_with fail
  go_fit (unhide E1 _ (unhide HB))
  rintro r w1 ⟨rfl, hb⟩
  replace R2 := hide (row_next hb (unhide R2))
  replace HB := hide (below_two (unhide HB) hb)
  clear hb c2 E1
  go_upto_region 2 with (refine mat_new rfl _ _ rfl _ m1 rfl rfl rfl ?_)
  have R5 := hide (new_row w1 (.cells (mC m1) 43))
  replace R2 := hide (row_next (al1_below w1 (.cells (mC m1) 43)) (unhide R2))
  replace HB := hide (below_two (unhide HB) (al1_below w1 (.cells (mC m1) 43)))
  generalize w1.alloc (.cells (mC m1) 43) = Y at R2 R5 HB ⊢
  generalize w1.heap.size = b5 at R5 ⊢
  cases y1 with
  | false =>
    have hX := hide (unhide hno rfl)
    have hE := hide (clip_empty (unhide HB))
    go_wp2_with fail
    go_ret
    exact ⟨_, rfl, by rw [unhide hX]; exact unhide hE, below_new _ (unhide HB) (Nat.le_refl _)⟩
  | true =>
    obtain ⟨k, hk', hf, hX⟩ := unhide hyes rfl
    have hki : (k : Int) < (n : Int) := by omega
    have ENA := hide (fun u (hu : Below Y.heap.size Y u) => (unhide E2 u (below_two (unhide HB) hu)).mono fun r w' h => show r = .returned (.int .i64 (k : Int)) ∧ Below u.heap.size u w' by rw [hf] at h; exact h)
    obtain ⟨b, o, hao, _⟩ := (unhide NN _ (unhide HB) k hk').range
    subst hao
    have hRX := hide (fun u (hu : Below Y.heap.size Y u) => show u.rangeAt b (o + k * 31) (ndC (X k) (A k)).toList by
      obtain ⟨b', o', e, h⟩ := (unhide NN u (below_two (unhide HB) hu) k hk').range
      cases e
      exact h)
    have HIN := hide (fun u (hu : Below Y.heap.size Y u) => (unhide NN u (below_two (unhide HB) hu) k hk').inn)
    have hsm := hide (unhide hs k hk')
    have hcp := hide (unhide hk k hk')
    obtain ⟨xx, hxx⟩ : ∃ z, Hid (X k = z) := ⟨_, rfl⟩
    obtain ⟨ss, hss⟩ : ∃ z, Hid (A k = z) := ⟨_, rfl⟩
    rw [unhide hxx] at hRX HIN hsm hcp hX
    rw [unhide hss] at hRX HIN hcp
    have hL0 := hide hX.symm
    have ELB := hide (fun u (hu : Below Y.heap.size Y u) => implLinesBy_any m1 xx.wf xx.qf ss.bv ss.bp xx.mv ss.dv xx.mp ss.dp (caps_none (unhide hcp).cv) (unhide hsm).mv (unhide hsm).mp u (unhide HIN _ hu).cv (unhide HIN _ hu).cp)
    rw [unhide hL0] at ELB
    have hR5 := hide (fun u (hu : Below Y.heap.size Y u) => mat_rng (row_next hu (unhide R5)))
    have hS4 := hide (fun u (hu : Below Y.heap.size Y u) => show Hid (Below Y.heap.size Y u) ∧ u.cell? ⟨b2, 0, none⟩ = some (.slice (some ⟨b, o, none⟩) n cp) ∧ u.cell? ⟨b, o + k * 31 + 29, none⟩ = some (.slice ss.bv xx.mv ss.dv) ∧ u.cell? ⟨b, o + k * 31 + 30, none⟩ = some (.slice ss.bp xx.mp ss.dp) from ⟨hu, row1 (row_next hu (unhide R2)), (unhide hRX u hu) 29 _ rfl, (unhide hRX u hu) 30 _ rfl⟩)
    have hYs := hide (unhide HB).size
    clear hX hf hxx hss hno hyes E2 NN hs hk hsm hcp HIN hRX
    go_upto_region 4 with fail
    refine wp_region_held_drew (S := (fun u => Hid (Below Y.heap.size Y u) ∧ u.cell? ⟨b2, 0, none⟩ = some (.slice (some ⟨b, o, none⟩) n cp) ∧ u.cell? ⟨b, o + k * 31 + 29, none⟩ = some (.slice ss.bv xx.mv ss.dv) ∧ u.cell? ⟨b, o + k * 31 + 30, none⟩ = some (.slice ss.bp xx.mp ss.dp))) (by kernel_rfl) ?_ (fun hHeld => ?_)
    · exact unhide hS4 _ (Below.refl _ _).drew
    refine wpAnyH_take (i := 0) (oi := { dst := some 16, op := Op.fieldAddr 30 (Operand.tmp 2) 0, type := 0, pos := "l17_shape.go:31", after := #[], guard := none }) (v := ?_) rfl (by kernel_rfl) (by kernel_rfl) (by kernel_rfl) (fun _ _ _ h => h) (Or.inl ⟨by rfl, ?_⟩) (by assumption) ?_
    rotate_left
    · intro w hSw; (try dsimp only at hSw); go_simp <;> with_reducible rfl
    try simp only [Act.put, List.setIfInBounds_toArray, List.set_cons_zero, List.set_cons_succ]
    refine wpAnyH_take (i := 1) (oi := { dst := some 17, op := Op.load 28 (Operand.tmp 16), type := 28, pos := "l17_shape.go:31", after := #[{ on := 0, ground := Ground.data }], guard := none }) (v := ?_) rfl (by kernel_rfl) (by kernel_rfl) (by kernel_rfl) (fun _ _ _ h => h) (Or.inl ⟨by rfl, ?_⟩) (by assumption) ?_
    rotate_left
    · intro w hSw; (try dsimp only at hSw); go_simp <;> with_reducible rfl
    try simp only [Act.put, List.setIfInBounds_toArray, List.set_cons_zero, List.set_cons_succ]
    refine wpAnyH_take (i := 2) (oi := { dst := some 18, op := Op.load 30 (Operand.tmp 2), type := 30, pos := "l17_shape.go:31", after := #[], guard := none }) (v := ?_) rfl (by kernel_rfl) (by kernel_rfl) (by kernel_rfl) (fun _ _ _ h => h) (Or.inl ⟨by rfl, ?_⟩) (by assumption) ?_
    rotate_left
    · intro w hSw; (try dsimp only at hSw); go_simp <;> with_reducible rfl
    try simp only [Act.put, List.setIfInBounds_toArray, List.set_cons_zero, List.set_cons_succ]
    refine wpAnyH_take (i := 3) (oi := { dst := some 19, op := Op.move (Operand.tmp 1), type := 3, pos := "l17_shape.go:31", after := #[], guard := none }) (v := ?_) rfl (by kernel_rfl) (by kernel_rfl) (by kernel_rfl) (fun _ _ _ h => h) (Or.inl ⟨by rfl, ?_⟩) (by assumption) ?_
    rotate_left
    · intro w hSw; (try dsimp only at hSw); go_simp <;> with_reducible rfl
    try simp only [Act.put, List.setIfInBounds_toArray, List.set_cons_zero, List.set_cons_succ]
    refine wpAnyH_take (i := 8) (oi := { dst := some 24, op := Op.load 43 (Operand.tmp 5), type := 43, pos := "l17_shape.go:31", after := #[], guard := none }) (v := .agg (mC m1)) rfl (by kernel_rfl) (by kernel_rfl) (by kernel_rfl) (fun _ _ _ h => h) (yields_mat rfl _ rfl b5 0 rfl m1 (fun u hu => unhide hR5 u (unhide hu.1))) (by assumption) ?_
    try simp only [Act.put, List.setIfInBounds_toArray, List.set_cons_zero, List.set_cons_succ]
    refine wpAnyH_ready (rs := [4]) (by kernel_rfl) (by simp) ?_
    refine AllReadyH.cons (o := { dst := some 20, op := Op.call { callee := Callee.value (Operand.func 24), args := #[Operand.tmp 18, Operand.tmp 19], argTypes := #[30, 3] }, type := 3, pos := "l17_shape.go:31", after := #[{ on := 2, ground := Ground.data }, { on := 3, ground := Ground.data }], guard := none }) rfl (fun K hK => ?_) AllReadyH.nil
    go_simp
    (first | (go_at_call 24; go_fit (unhide ENA _ (unhide hHeld.1)); rintro r wn ⟨rfl, hbn⟩; have sn := unhide hS4 _ (below_two (unhide hHeld.1) hbn)) | (go_at_call 25; go_fit (unhide ELB _ (unhide hHeld.1)); rintro r wn ⟨v, rfl, hL, hbn⟩; replace hL := hide (hL.low (unhide hHeld.1).size); have sn := unhide hS4 _ (below_two (unhide hHeld.1) hbn)))
    refine hK.out _ _ ?_ (fun hHeld => ?_)
    · with_reducible exact sn
    clear hK K
    try simp only [Act.put, List.setIfInBounds_toArray, List.set_cons_zero, List.set_cons_succ]
    refine wpAnyH_take (i := 5) (oi := { dst := some 21, op := Op.indexAddr 28 (Operand.tmp 17) (Operand.tmp 20), type := 0, pos := "l17_shape.go:31", after := #[{ on := 1, ground := Ground.data }, { on := 4, ground := Ground.data }], guard := none }) (v := ?_) rfl (by kernel_rfl) (by kernel_rfl) (by kernel_rfl) (fun _ _ _ h => h) (Or.inl ⟨by rfl, ?_⟩) (by assumption) ?_
    rotate_left
    · intro w hSw; (try dsimp only at hSw); go_simp <;> with_reducible rfl
    try simp only [Act.put, List.setIfInBounds_toArray, List.set_cons_zero, List.set_cons_succ]
    refine wpAnyH_take (i := 6) (oi := { dst := some 22, op := Op.fieldAddr 59 (Operand.tmp 21) 11, type := 0, pos := "l17_shape.go:31", after := #[{ on := 5, ground := Ground.data }], guard := none }) (v := ?_) rfl (by kernel_rfl) (by kernel_rfl) (by kernel_rfl) (fun _ _ _ h => h) (Or.inl ⟨by rfl, ?_⟩) (by assumption) ?_
    rotate_left
    · intro w hSw; (try dsimp only at hSw); go_simp <;> with_reducible rfl
    try simp only [Act.put, List.setIfInBounds_toArray, List.set_cons_zero, List.set_cons_succ]
    refine wpAnyH_take (i := 7) (oi := { dst := some 23, op := Op.load 50 (Operand.tmp 22), type := 50, pos := "l17_shape.go:31", after := #[{ on := 6, ground := Ground.data }], guard := none }) (v := ?_) rfl (by kernel_rfl) (by kernel_rfl) (by kernel_rfl) (fun _ _ _ h => h) (Or.inl ⟨by rfl, ?_⟩) (by assumption) ?_
    rotate_left
    · intro w hSw; (try dsimp only at hSw); go_simp <;> with_reducible rfl
    try simp only [Act.put, List.setIfInBounds_toArray, List.set_cons_zero, List.set_cons_succ]
    refine wpAnyH_ready (rs := [9]) (by kernel_rfl) (by simp) ?_
    refine AllReadyH.cons (o := { dst := some 25, op := Op.call { callee := Callee.value (Operand.func 25), args := #[Operand.tmp 23, Operand.tmp 24], argTypes := #[50, 43] }, type := 26, pos := "l17_shape.go:31", after := #[{ on := 7, ground := Ground.data }, { on := 8, ground := Ground.data }, { on := 4, ground := Ground.chain }], guard := none }) rfl (fun K hK => ?_) AllReadyH.nil
    go_simp
    (first | (go_at_call 24; go_fit (unhide ENA _ (unhide hHeld.1)); rintro r wn ⟨rfl, hbn⟩; have sn := unhide hS4 _ (below_two (unhide hHeld.1) hbn)) | (go_at_call 25; go_fit (unhide ELB _ (unhide hHeld.1)); rintro r wn ⟨v, rfl, hL, hbn⟩; replace hL := hide (hL.low (unhide hHeld.1).size); have sn := unhide hS4 _ (below_two (unhide hHeld.1) hbn)))
    refine hK.out _ _ ?_ (fun hHeld => ?_)
    · with_reducible exact sn
    clear hK K
    try simp only [Act.put, List.setIfInBounds_toArray, List.set_cons_zero, List.set_cons_succ]
    refine wpAnyH_take (i := 10) (oi := { dst := some 4, op := Op.assign (Operand.tmp 25), type := 26, pos := "l17_shape.go:31", after := #[{ on := 9, ground := Ground.data }, { on := 9, ground := Ground.chain }, { on := 0, ground := Ground.phase }, { on := 1, ground := Ground.phase }, { on := 2, ground := Ground.phase }, { on := 3, ground := Ground.phase }, { on := 4, ground := Ground.phase }, { on := 5, ground := Ground.phase }, { on := 6, ground := Ground.phase }, { on := 7, ground := Ground.phase }, { on := 8, ground := Ground.phase }, { on := 9, ground := Ground.phase }], guard := none }) (v := ?_) rfl (by kernel_rfl) (by kernel_rfl) (by kernel_rfl) (fun _ _ _ h => h) (Or.inl ⟨by rfl, ?_⟩) (by assumption) ?_
    rotate_left
    · intro w hSw; (try dsimp only at hSw); go_simp <;> with_reducible rfl
    try simp only [Act.put, List.setIfInBounds_toArray, List.set_cons_zero, List.set_cons_succ]
    refine wpAnyH_done (by kernel_rfl) ?_ _
    have BZ := hide (below_two (unhide HB) (unhide hHeld.1))
    have hL2 := hide ((unhide hL).low (unhide hYs))
    clear hHeld sn hL
    go_wp2_with fail
    go_ret
    exact ⟨_, rfl, unhide hL2, unhide BZ⟩

set_option maxHeartbeats 8000000 in
set_option maxRecDepth 100000 in
theorem specClipOf_any (X : Nat → Nd) (A : Nat → Na) (ao : Option Addr) (n cp : Nat) (hn : n ≤ 1048576) (hs : ∀ i, i < n → (X i).Small) (hk : ∀ i, i < n → Caps (X i) (A i)) (id : Int) (w : World) (P : ∀ i, i < n → NrAt w ao i (X i) (A i)) :
    Calls Tryz.prog 6 #[.agg #[.slice ao n cp], .int .i64 id] w fun r w' => ∃ v, r = .returned v ∧ LinesV w' w.heap.size v (clipL X n id) ∧ Below w.heap.size w w' := by
  have E1 := hide (fun u (hu : Below w.heap.size w u) => specMatOf_any X A ao n cp hn hs id u (fun i hi => (P i hi).next hu))
  have E2 := hide (fun u (hu : Below w.heap.size w u) => specNodeAt_any X A ao n cp hn id u (fun i hi => (P i hi).next hu))
  have NN := hide (fun u (hu : Below w.heap.size w u) i (hi : i < n) => (P i hi).next hu)
  have hno := hide (fun (h : (matM X n id).2 = false) => clip_no h)
  have hyes := hide (fun (h : (matM X n id).2 = true) => clip_yes h)
  replace hs := hide hs
  replace hk := hide hk
  obtain ⟨m1, y1, hR⟩ : ∃ m y, Hid (matM X n id = (m, y)) := ⟨_, _, rfl⟩
  rw [unhide hR] at E1 hno hyes
  dsimp only at E1 hno hyes
  obtain ⟨L, hL⟩ : ∃ L, Hid (clipL X n id = L) := ⟨_, rfl⟩
  rw [unhide hL] at hno hyes ⊢
  clear P hR hL
  go_enter Tryz.func6, Tryz.ntmps6
  go_upto_region 1 with fail
  have R2 := hide (new_row w (.cells #[.slice ao n cp] 30))
  have HB := hide (al1_below w (.cells #[.slice ao n cp] 30))
  generalize w.alloc (.cells #[.slice ao n cp] 30) = W at R2 HB ⊢
  obtain ⟨b2, hb2⟩ : ∃ b, Hid (b = w.heap.size) := ⟨_, rfl⟩
  rw [← unhide hb2] at R2 ⊢
  clear hb2
  have c2 := row1 (unhide R2)
  go_wp2_with fail
  go_fit (unhide E1 _ (unhide HB))
  rintro r w1 ⟨rfl, hb⟩
  replace R2 := hide (row_next hb (unhide R2))
  replace HB := hide (below_two (unhide HB) hb)
  clear hb c2 E1
  go_upto_region 2 with (refine mat_new rfl _ _ rfl _ m1 rfl rfl rfl ?_)
  have R5 := hide (new_row w1 (.cells (mC m1) 43))
  replace R2 := hide (row_next (al1_below w1 (.cells (mC m1) 43)) (unhide R2))
  replace HB := hide (below_two (unhide HB) (al1_below w1 (.cells (mC m1) 43)))
  generalize w1.alloc (.cells (mC m1) 43) = Y at R2 R5 HB ⊢
  generalize w1.heap.size = b5 at R5 ⊢
  cases y1 with
  | false =>
    have hX := hide (unhide hno rfl)
    have hE := hide (clip_empty (unhide HB))
    go_wp2_with fail
    go_ret
    exact ⟨_, rfl, by rw [unhide hX]; exact unhide hE, below_new _ (unhide HB) (Nat.le_refl _)⟩
  | true =>
    obtain ⟨k, hk', hf, hX⟩ := unhide hyes rfl
    have hki : (k : Int) < (n : Int) := by omega
    have ENA := hide (fun u (hu : Below Y.heap.size Y u) => (unhide E2 u (below_two (unhide HB) hu)).mono fun r w' h => show r = .returned (.int .i64 (k : Int)) ∧ Below u.heap.size u w' by rw [hf] at h; exact h)
    obtain ⟨b, o, hao, _⟩ := (unhide NN _ (unhide HB) k hk').range
    subst hao
    have hRX := hide (fun u (hu : Below Y.heap.size Y u) => show u.rangeAt b (o + k * 31) (ndC (X k) (A k)).toList by
      obtain ⟨b', o', e, h⟩ := (unhide NN u (below_two (unhide HB) hu) k hk').range
      cases e
      exact h)
    have HIN := hide (fun u (hu : Below Y.heap.size Y u) => (unhide NN u (below_two (unhide HB) hu) k hk').inn)
    have hsm := hide (unhide hs k hk')
    have hcp := hide (unhide hk k hk')
    obtain ⟨xx, hxx⟩ : ∃ z, Hid (X k = z) := ⟨_, rfl⟩
    obtain ⟨ss, hss⟩ : ∃ z, Hid (A k = z) := ⟨_, rfl⟩
    rw [unhide hxx] at hRX HIN hsm hcp hX
    rw [unhide hss] at hRX HIN hcp
    have hL0 := hide hX.symm
    have EMP := hide (fun u (hu : Below Y.heap.size Y u) => specMovePath_m m1 xx.wf xx.qf ss.bv ss.bp xx.mv ss.dv xx.mp ss.dp (caps_none (unhide hcp).cv) (unhide hsm).mv (unhide hsm).mp u (unhide HIN _ hu).cv (unhide HIN _ hu).cp)
    have EFL := hide (fun (u : World) (a' b' : Option Addr) (c' d' base : Nat) (hv : PathV u base (.slice a' (movN m1 xx.wf xx.mv xx.qf xx.mp xx.mv) c') (.slice b' (movN m1 xx.wf xx.mv xx.qf xx.mp xx.mp) d') (movN m1 xx.wf xx.mv xx.qf xx.mp xx.mv) (movN m1 xx.wf xx.mv xx.qf xx.mp xx.mp) xx.wf (fun i => mv6 m1 (xx.qf i))) => show Calls Tryz.prog 19 #[.agg #[.slice a' (movN m1 xx.wf xx.mv xx.qf xx.mp xx.mv) c', .slice b' (movN m1 xx.wf xx.mv xx.qf xx.mp xx.mp) d']] u (fun r w' => ∃ v, r = .returned v ∧ LinesV w' u.heap.size v (linesM m1 xx.wf xx.mv xx.qf xx.mp) ∧ Below u.heap.size u w') from
      specFlatOf_any xx.wf (fun i => mv6 m1 (xx.qf i)) a' b' _ c' _ d' (Nat.le_trans (movN_le ..) (unhide hsm).mv) (Nat.le_trans (movN_le ..) (unhide hsm).mp) u _ rightB_iff hv.ints hv.pts)
    rw [unhide hL0] at EFL
    generalize movN m1 xx.wf xx.mv xx.qf xx.mp xx.mv = n' at EMP EFL
    generalize movN m1 xx.wf xx.mv xx.qf xx.mp xx.mp = m' at EMP EFL
    have hR5 := hide (fun u (hu : Below Y.heap.size Y u) => mat_rng (row_next hu (unhide R5)))
    have hS4 := hide (fun u (hu : Below Y.heap.size Y u) => show Hid (Below Y.heap.size Y u) ∧ u.cell? ⟨b2, 0, none⟩ = some (.slice (some ⟨b, o, none⟩) n cp) ∧ u.cell? ⟨b, o + k * 31 + 29, none⟩ = some (.slice ss.bv xx.mv ss.dv) ∧ u.cell? ⟨b, o + k * 31 + 30, none⟩ = some (.slice ss.bp xx.mp ss.dp) from ⟨hu, row1 (row_next hu (unhide R2)), (unhide hRX u hu) 29 _ rfl, (unhide hRX u hu) 30 _ rfl⟩)
    have hYs := hide (unhide HB).size
    clear hX hf hxx hss hno hyes E2 NN hs hk hsm hcp HIN hRX
    go_upto_region 4 with fail
    refine wp_region_held_drew (S := (fun u => Hid (Below Y.heap.size Y u) ∧ u.cell? ⟨b2, 0, none⟩ = some (.slice (some ⟨b, o, none⟩) n cp) ∧ u.cell? ⟨b, o + k * 31 + 29, none⟩ = some (.slice ss.bv xx.mv ss.dv) ∧ u.cell? ⟨b, o + k * 31 + 30, none⟩ = some (.slice ss.bp xx.mp ss.dp))) (by kernel_rfl) ?_ (fun hHeld => ?_)
    · exact unhide hS4 _ (Below.refl _ _).drew
    refine wpAnyH_take (i := 0) (oi := { dst := some 16, op := Op.load 43 (Operand.tmp 5), type := 43, pos := "l17_shape.go:44", after := #[], guard := none }) (v := .agg (mC m1)) rfl (by kernel_rfl) (by kernel_rfl) (by kernel_rfl) (fun _ _ _ h => h) (yields_mat rfl _ rfl b5 0 rfl m1 (fun u hu => unhide hR5 u (unhide hu.1))) (by assumption) ?_
    try simp only [Act.put, List.setIfInBounds_toArray, List.set_cons_zero, List.set_cons_succ]
    refine wpAnyH_take (i := 1) (oi := { dst := some 17, op := Op.fieldAddr 30 (Operand.tmp 2) 0, type := 0, pos := "l17_shape.go:44", after := #[], guard := none }) (v := ?_) rfl (by kernel_rfl) (by kernel_rfl) (by kernel_rfl) (fun _ _ _ h => h) (Or.inl ⟨by rfl, ?_⟩) (by assumption) ?_
    rotate_left
    · intro w hSw; (try dsimp only at hSw); go_simp <;> with_reducible rfl
    try simp only [Act.put, List.setIfInBounds_toArray, List.set_cons_zero, List.set_cons_succ]
    refine wpAnyH_take (i := 2) (oi := { dst := some 18, op := Op.load 28 (Operand.tmp 17), type := 28, pos := "l17_shape.go:44", after := #[{ on := 1, ground := Ground.data }], guard := none }) (v := ?_) rfl (by kernel_rfl) (by kernel_rfl) (by kernel_rfl) (fun _ _ _ h => h) (Or.inl ⟨by rfl, ?_⟩) (by assumption) ?_
    rotate_left
    · intro w hSw; (try dsimp only at hSw); go_simp <;> with_reducible rfl
    try simp only [Act.put, List.setIfInBounds_toArray, List.set_cons_zero, List.set_cons_succ]
    refine wpAnyH_take (i := 3) (oi := { dst := some 19, op := Op.load 30 (Operand.tmp 2), type := 30, pos := "l17_shape.go:44", after := #[], guard := none }) (v := ?_) rfl (by kernel_rfl) (by kernel_rfl) (by kernel_rfl) (fun _ _ _ h => h) (Or.inl ⟨by rfl, ?_⟩) (by assumption) ?_
    rotate_left
    · intro w hSw; (try dsimp only at hSw); go_simp <;> with_reducible rfl
    try simp only [Act.put, List.setIfInBounds_toArray, List.set_cons_zero, List.set_cons_succ]
    refine wpAnyH_take (i := 4) (oi := { dst := some 20, op := Op.move (Operand.tmp 1), type := 3, pos := "l17_shape.go:44", after := #[], guard := none }) (v := ?_) rfl (by kernel_rfl) (by kernel_rfl) (by kernel_rfl) (fun _ _ _ h => h) (Or.inl ⟨by rfl, ?_⟩) (by assumption) ?_
    rotate_left
    · intro w hSw; (try dsimp only at hSw); go_simp <;> with_reducible rfl
    try simp only [Act.put, List.setIfInBounds_toArray, List.set_cons_zero, List.set_cons_succ]
    refine wpAnyH_ready (rs := [5]) (by kernel_rfl) (by simp) ?_
    refine AllReadyH.cons (o := { dst := some 21, op := Op.call { callee := Callee.value (Operand.func 21), args := #[Operand.tmp 19, Operand.tmp 20], argTypes := #[30, 3] }, type := 3, pos := "l17_shape.go:44", after := #[{ on := 3, ground := Ground.data }, { on := 4, ground := Ground.data }], guard := none }) rfl (fun K hK => ?_) AllReadyH.nil
    go_simp
    (first | (go_at_call 21; go_fit (unhide ENA _ (unhide hHeld.1)); rintro r wn ⟨rfl, hbn⟩; have sn := unhide hS4 _ (below_two (unhide hHeld.1) hbn)) | (go_at_call 20; go_fit (unhide EMP _ (unhide hHeld.1)); rintro r wn hp; obtain ⟨a', c', b', d', rfl, hv, hbn⟩ := hp.open; replace hv := hide hv; clear hp; have sn := unhide hS4 _ (below_two (unhide hHeld.1) hbn)) | (go_at_call 19; go_fit (unhide EFL _ _ _ _ _ _ (unhide hv)); rintro r wn ⟨v, rfl, hL, hbn⟩; replace hL := hide (hL.low (unhide hHeld.1).size); have sn := unhide hS4 _ (below_two (unhide hHeld.1) hbn)))
    refine hK.out _ _ ?_ (fun hHeld => ?_)
    · with_reducible exact sn
    clear hK K
    try simp only [Act.put, List.setIfInBounds_toArray, List.set_cons_zero, List.set_cons_succ]
    refine wpAnyH_take (i := 6) (oi := { dst := some 22, op := Op.indexAddr 28 (Operand.tmp 18) (Operand.tmp 21), type := 0, pos := "l17_shape.go:44", after := #[{ on := 2, ground := Ground.data }, { on := 5, ground := Ground.data }], guard := none }) (v := ?_) rfl (by kernel_rfl) (by kernel_rfl) (by kernel_rfl) (fun _ _ _ h => h) (Or.inl ⟨by rfl, ?_⟩) (by assumption) ?_
    rotate_left
    · intro w hSw; (try dsimp only at hSw); go_simp <;> with_reducible rfl
    try simp only [Act.put, List.setIfInBounds_toArray, List.set_cons_zero, List.set_cons_succ]
    refine wpAnyH_take (i := 7) (oi := { dst := some 23, op := Op.fieldAddr 59 (Operand.tmp 22) 11, type := 0, pos := "l17_shape.go:44", after := #[{ on := 6, ground := Ground.data }], guard := none }) (v := ?_) rfl (by kernel_rfl) (by kernel_rfl) (by kernel_rfl) (fun _ _ _ h => h) (Or.inl ⟨by rfl, ?_⟩) (by assumption) ?_
    rotate_left
    · intro w hSw; (try dsimp only at hSw); go_simp <;> with_reducible rfl
    try simp only [Act.put, List.setIfInBounds_toArray, List.set_cons_zero, List.set_cons_succ]
    refine wpAnyH_take (i := 8) (oi := { dst := some 24, op := Op.load 50 (Operand.tmp 23), type := 50, pos := "l17_shape.go:44", after := #[{ on := 7, ground := Ground.data }], guard := none }) (v := ?_) rfl (by kernel_rfl) (by kernel_rfl) (by kernel_rfl) (fun _ _ _ h => h) (Or.inl ⟨by rfl, ?_⟩) (by assumption) ?_
    rotate_left
    · intro w hSw; (try dsimp only at hSw); go_simp <;> with_reducible rfl
    try simp only [Act.put, List.setIfInBounds_toArray, List.set_cons_zero, List.set_cons_succ]
    refine wpAnyH_ready (rs := [9]) (by kernel_rfl) (by simp) ?_
    refine AllReadyH.cons (o := { dst := some 25, op := Op.call { callee := Callee.value (Operand.func 20), args := #[Operand.tmp 16, Operand.tmp 24], argTypes := #[43, 50] }, type := 50, pos := "l17_shape.go:44", after := #[{ on := 0, ground := Ground.data }, { on := 8, ground := Ground.data }, { on := 5, ground := Ground.chain }], guard := none }) rfl (fun K hK => ?_) AllReadyH.nil
    go_simp
    (first | (go_at_call 21; go_fit (unhide ENA _ (unhide hHeld.1)); rintro r wn ⟨rfl, hbn⟩; have sn := unhide hS4 _ (below_two (unhide hHeld.1) hbn)) | (go_at_call 20; go_fit (unhide EMP _ (unhide hHeld.1)); rintro r wn hp; obtain ⟨a', c', b', d', rfl, hv, hbn⟩ := hp.open; replace hv := hide hv; clear hp; have sn := unhide hS4 _ (below_two (unhide hHeld.1) hbn)) | (go_at_call 19; go_fit (unhide EFL _ _ _ _ _ _ (unhide hv)); rintro r wn ⟨v, rfl, hL, hbn⟩; replace hL := hide (hL.low (unhide hHeld.1).size); have sn := unhide hS4 _ (below_two (unhide hHeld.1) hbn)))
    refine hK.out _ _ ?_ (fun hHeld => ?_)
    · with_reducible exact sn
    clear hK K
    try simp only [Act.put, List.setIfInBounds_toArray, List.set_cons_zero, List.set_cons_succ]
    refine wpAnyH_ready (rs := [10]) (by kernel_rfl) (by simp) ?_
    refine AllReadyH.cons (o := { dst := some 26, op := Op.call { callee := Callee.value (Operand.func 19), args := #[Operand.tmp 25], argTypes := #[50] }, type := 26, pos := "l17_shape.go:44", after := #[{ on := 9, ground := Ground.data }, { on := 9, ground := Ground.chain }], guard := none }) rfl (fun K hK => ?_) AllReadyH.nil
    go_simp
    (first | (go_at_call 21; go_fit (unhide ENA _ (unhide hHeld.1)); rintro r wn ⟨rfl, hbn⟩; have sn := unhide hS4 _ (below_two (unhide hHeld.1) hbn)) | (go_at_call 20; go_fit (unhide EMP _ (unhide hHeld.1)); rintro r wn hp; obtain ⟨a', c', b', d', rfl, hv, hbn⟩ := hp.open; replace hv := hide hv; clear hp; have sn := unhide hS4 _ (below_two (unhide hHeld.1) hbn)) | (go_at_call 19; go_fit (unhide EFL _ _ _ _ _ _ (unhide hv)); rintro r wn ⟨v, rfl, hL, hbn⟩; replace hL := hide (hL.low (unhide hHeld.1).size); have sn := unhide hS4 _ (below_two (unhide hHeld.1) hbn)))
    refine hK.out _ _ ?_ (fun hHeld => ?_)
    · with_reducible exact sn
    clear hK K
    try simp only [Act.put, List.setIfInBounds_toArray, List.set_cons_zero, List.set_cons_succ]
    refine wpAnyH_take (i := 11) (oi := { dst := some 4, op := Op.assign (Operand.tmp 26), type := 26, pos := "l17_shape.go:44", after := #[{ on := 10, ground := Ground.data }, { on := 10, ground := Ground.chain }, { on := 0, ground := Ground.phase }, { on := 1, ground := Ground.phase }, { on := 2, ground := Ground.phase }, { on := 3, ground := Ground.phase }, { on := 4, ground := Ground.phase }, { on := 5, ground := Ground.phase }, { on := 6, ground := Ground.phase }, { on := 7, ground := Ground.phase }, { on := 8, ground := Ground.phase }, { on := 9, ground := Ground.phase }, { on := 10, ground := Ground.phase }], guard := none }) (v := ?_) rfl (by kernel_rfl) (by kernel_rfl) (by kernel_rfl) (fun _ _ _ h => h) (Or.inl ⟨by rfl, ?_⟩) (by assumption) ?_
    rotate_left
    · intro w hSw; (try dsimp only at hSw); go_simp <;> with_reducible rfl
    try simp only [Act.put, List.setIfInBounds_toArray, List.set_cons_zero, List.set_cons_succ]
    refine wpAnyH_done (by kernel_rfl) ?_ _
    have BZ := hide (below_two (unhide HB) (unhide hHeld.1))
    have hL2 := hide ((unhide hL).low (unhide hYs))
    clear hHeld sn hL
    go_wp2_with fail
    go_ret
    exact ⟨_, rfl, unhide hL2, unhide BZ⟩
end Go.Proofs.YtdbphpekhmlmdabGreat

/-
  The laws' own words on scenes: measured, handed over, held against each other.
-/
namespace Go.Proofs.YtdbphpekhmlmdabGreat
open Go.RowKit
set_option linter.unusedVariables false

/-- Several cells of a list set, from o on. -/
def setL (xs : List Value) : Nat → List Value → List Value
  | _, [] => xs
  | o, v :: r => setL (xs.set o v) (o + 1) r
theorem setL_len : ∀ (l : List Value) (xs : List Value) (o : Nat), (setL xs o l).length = xs.length
  | [], _, _ => rfl
  | v :: r, xs, o => by unfold setL; rw [setL_len r]; simp
theorem setL_out : ∀ (l : List Value) (xs : List Value) (o q : Nat), q < o ∨ o + l.length ≤ q → (setL xs o l)[q]? = xs[q]?
  | [], _, _, _, _ => rfl
  | v :: r, xs, o, q, h => by
    unfold setL
    rw [setL_out r _ (o + 1) q (by simp at h; omega), List.getElem?_set_ne (by simp at h; omega)]
theorem setL_in : ∀ (l : List Value) (xs : List Value) (o m : Nat), o + l.length ≤ xs.length → m < l.length → (setL xs o l)[o + m]? = l[m]?
  | [], _, _, m, _, h => absurd h (by simp)
  | v :: r, xs, o, 0, h, _ => by
    unfold setL
    simp at h
    rw [setL_out r _ (o + 1) (o + 0) (.inl (by omega))]
    simp [List.getElem?_set]; omega
  | v :: r, xs, o, m + 1, h, hm => by
    unfold setL
    simp at h hm
    rw [show o + (m + 1) = o + 1 + m by omega, setL_in r _ (o + 1) m (by simp; omega) hm]
    simp
theorem own_setMany {base t s g n cap : Nat} : ∀ (l : List Value) {w : World} {o : Nat} {xs : List Value} (_ : w.ownsRow base t s (.slice (some ⟨g, 0, none⟩) n cap) n xs), (w.setCells g o l).ownsRow base t s (.slice (some ⟨g, 0, none⟩) n cap) n (setL xs o l)
  | [], _, _, _, h => h
  | v :: r, _, _, _, h => own_setMany r (h.stored _ _).1

/-- The first k nodes of a row. -/
def NsAt (ys : List Value) (X : Nat → Nd) (A : Nat → Na) (k : Nat) : Prop := ∀ j, j < k → ∀ m v, (ndC (X j) (A j))[m]? = some v → ys[j * 31 + m]? = some v
def upd {α : Type} (f : Nat → α) (k : Nat) (v : α) : Nat → α := fun j => if j = k then v else f j
theorem upd_at {α : Type} (f : Nat → α) (k : Nat) (v : α) : upd f k v k = v := if_pos rfl
theorem upd_ne {α : Type} (f : Nat → α) {k j : Nat} (v : α) (h : j ≠ k) : upd f k v j = f j := if_neg h
theorem NsAt.step {ys : List Value} {X : Nat → Nd} {A : Nat → Na} {k : Nat} (h : NsAt ys X A k) (s : Na) (hl : k * 31 + 31 ≤ ys.length) : NsAt (setL ys (k * 31) (ndC (X k) s).toList) X (upd A k s) (k + 1) := by
  have hz : (ndC (X k) s).toList.length = 31 := rfl
  intro j hj m v hv
  by_cases e : j = k
  · subst e
    rw [upd_at] at hv
    have hm : m < 31 := by
      have := (Array.getElem?_eq_some_iff.1 hv).1
      rwa [ndC_size] at this
    rw [setL_in _ _ _ _ (by rw [hz]; exact hl) (by rw [hz]; exact hm), Array.getElem?_toList]
    exact hv
  · rw [upd_ne _ _ e] at hv
    have hm : m < 31 := by
      have := (Array.getElem?_eq_some_iff.1 hv).1
      rwa [ndC_size] at this
    rw [setL_out _ _ _ _ (.inl (by omega))]
    exact h j (by omega) m v hv
/-- The lists of the first k nodes are one's own, each in a block of its own, behind the row. -/
structure ScN (u : World) (b k : Nat) (X : Nat → Nd) (A : Nat → Na) (K : Nat → Nat → Nat) (lo : Nat → Nat) : Prop where
  own : ∀ j, j < k → NdO u (b + 1) (K j) (X j) (A j)
  five : ∀ j, j < k → Five (K j) (lo j) (lo (j + 1))
  first : b < lo 0
  top : lo k ≤ u.heap.size
theorem ScN.next {u u' : World} {b k : Nat} {X : Nat → Nd} {A : Nat → Na} {K : Nat → Nat → Nat} {lo : Nat → Nat} (h : ScN u b k X A K lo) (hb : Below u.heap.size u u') : ScN u' b k X A K lo :=
  ⟨fun j hj => (h.own j hj).next hb, h.five, h.first, Nat.le_trans h.top hb.size⟩
theorem NdO.sets {w : World} {base b o : Nat} {K : Nat → Nat} {x : Nd} {s : Na} (h : NdO w base K x s) (hb : b < base) (l : List Value) : NdO (w.setCells b o l) base K x s :=
  let ⟨xs, a1, a2⟩ := h.v; let ⟨ys, b1, b2⟩ := h.p; let ⟨zs, c1, c2⟩ := h.d; let ⟨us, d1, d2⟩ := h.cv; let ⟨vs, e1, e2⟩ := h.cp
  ⟨⟨xs, own_sets hb l a1, a2⟩, ⟨ys, own_sets hb l b1, b2⟩, ⟨zs, own_sets hb l c1, c2⟩, ⟨us, own_sets hb l d1, d2⟩, ⟨vs, own_sets hb l e1, e2⟩, h.kv, h.kp, h.kd, h.kcv, h.kcp⟩
theorem ScN.sets {u : World} {b k : Nat} {X : Nat → Nd} {A : Nat → Na} {K : Nat → Nat → Nat} {lo : Nat → Nat} (h : ScN u b k X A K lo) (o : Nat) (l : List Value) : ScN (u.setCells b o l) b k X A K lo :=
  ⟨fun j hj => (h.own j hj).sets (Nat.lt_succ_self _) l, h.five, h.first, by rw [sets_size]; exact h.top⟩
theorem NdO.low {w : World} {base base' : Nat} {K : Nat → Nat} {x : Nd} {s : Na} (h : NdO w base K x s) (hb : base' ≤ base) : NdO w base' K x s :=
  let ⟨xs, a1, a2⟩ := h.v; let ⟨ys, b1, b2⟩ := h.p; let ⟨zs, c1, c2⟩ := h.d; let ⟨us, d1, d2⟩ := h.cv; let ⟨vs, e1, e2⟩ := h.cp
  ⟨⟨xs, own_low a1 hb, a2⟩, ⟨ys, own_low b1 hb, b2⟩, ⟨zs, own_low c1 hb, c2⟩, ⟨us, own_low d1 hb, d2⟩, ⟨vs, own_low e1 hb, e2⟩, h.kv, h.kp, h.kd, h.kcv, h.kcp⟩
theorem ScN.step {u u1 : World} {b k : Nat} {X : Nat → Nd} {A : Nat → Na} {K : Nat → Nat → Nat} {lo : Nat → Nat} (h : ScN u b k X A K lo) (hbu : b < u.heap.size) (hb : Below u.heap.size u u1) {s : Na} {Kn : Nat → Nat} (hn : NdO u1 u.heap.size Kn (X k) s) (h5 : Five Kn u.heap.size u1.heap.size) :
    ScN u1 b (k + 1) X (upd A k s) (upd K k Kn) (upd lo (k + 1) u1.heap.size) := by
  refine ⟨fun j hj => ?_, fun j hj => ?_, ?_, ?_⟩
  · by_cases e : j = k
    · subst e; rw [upd_at, upd_at]; exact hn.low hbu
    · rw [upd_ne _ _ e, upd_ne _ _ e]; exact (h.own j (by omega)).next hb
  · by_cases e : j = k
    · subst e
      rw [upd_at, upd_at, upd_ne _ _ (by omega)]
      exact ⟨fun i hi => ⟨Nat.le_trans h.top (h5.low i hi).1, (h5.low i hi).2⟩, h5.inj⟩
    · rw [upd_ne _ _ e, upd_ne _ _ (by omega), upd_ne _ _ (by omega)]; exact h.five j (by omega)
  · rw [upd_ne _ _ (by omega)]; exact h.first
  · rw [upd_at]; exact Nat.le_refl _
/-- A scene's list of nodes that is one's own, with all its lists. -/
def ScV (w : World) (base : Nat) (a : Option Addr) (n c : Nat) (X : Nat → Nd) (A : Nat → Na) : Prop :=
  ∃ b ys K lo, a = some ⟨b, 0, none⟩ ∧ base ≤ b ∧ w.ownsRow base 59 31 (.slice a n c) n ys ∧ NsAt ys X A n ∧ ScN w b n X A K lo
theorem ScV.next {w u : World} {base n c : Nat} {a : Option Addr} {X : Nat → Nd} {A : Nat → Na} (h : ScV w base a n c X A) (hb : Below w.heap.size w u) : ScV u base a n c X A :=
  let ⟨b, ys, K, lo, h1, h2, h3, h4, h5⟩ := h; ⟨b, ys, K, lo, h1, h2, own_below h3 hb, h4, h5.next hb⟩
theorem ScV.nodes {w : World} {base n c : Nat} {a : Option Addr} {X : Nat → Nd} {A : Nat → Na} (h : ScV w base a n c X A) : ∀ i, i < n → NrAt w a i (X i) (A i) := by
  obtain ⟨b, ys, K, lo, rfl, h2, h3, h4, h5⟩ := h
  intro i hi
  refine ⟨b, 0, rfl, fun j v hv => ?_, (h5.own i hi).inn⟩
  have hj : j < 31 := by
    have := (Array.getElem?_eq_some_iff.1 hv).1
    exact this
  rw [Nat.zero_add, h3.cellAt _ (by omega)]
  exact h4 i hi j v hv
theorem ScV.low {w : World} {base base' n c : Nat} {a : Option Addr} {X : Nat → Nd} {A : Nat → Na} (h : ScV w base a n c X A) (hb : base' ≤ base) : ScV w base' a n c X A :=
  let ⟨b, ys, K, lo, h1, h2, h3, h4, h5⟩ := h; ⟨b, ys, K, lo, h1, Nat.le_trans hb h2, own_low h3 hb, h4, h5⟩

def sumT (X : Nat → Nd) : Nat → Nat
  | 0 => 0
  | k + 1 => sumT X k + (X k).tot
theorem sumT_le (X : Nat → Nd) {i : Nat} : ∀ {n : Nat}, i < n → (X i).tot + sumT X i ≤ sumT X n
  | 0, h => absurd h (by omega)
  | n + 1, h => by
    by_cases e : i = n
    · subst e; show (X i).tot + sumT X i ≤ sumT X i + (X i).tot; omega
    · have := sumT_le X (i := i) (n := n) (by omega); show _ ≤ sumT X n + (X n).tot; omega
theorem sumT_mono (X : Nat → Nd) {i : Nat} : ∀ {n : Nat}, i ≤ n → sumT X i ≤ sumT X n
  | 0, h => by obtain rfl : i = 0 := by omega
               exact Nat.le_refl _
  | n + 1, h => by
    by_cases e : i = n + 1
    · subst e; exact Nat.le_refl _
    · have := sumT_mono X (i := i) (n := n) (by omega); show _ ≤ sumT X n + (X n).tot; omega
/-- How much a scene takes. -/
def scT (X : Nat → Nd) (n : Nat) : Nat := n + sumT X n
theorem lnode_size : (Tryz.prog.info? 81).map (·.size) = some 31 := by kernel_rfl
theorem load_lnode {ops : Array Oper} {rest : List Oper} {op : Oper} {a : Act} {w : World} {Q : Exit → Act → World → Prop} (hgd : op.guard = none) (y : Operand) (ho : op.op = .load 81 y)
    (b o : Nat) (hx : a.eval y = .pointer (some ⟨b, o, none⟩)) (x : Nd) (s : Na) (hc : w.rangeAt b o (ndC x s).toList)
    (h : wpList Tryz.prog ops Q rest (a.put op.dst (.agg (ndC x s))) w) : wpList Tryz.prog ops Q (op :: rest) a w :=
  wpList_load_mid hgd 81 y ho b o hx (ndC x s).toList _ hc Tryz.underlying81 rfl (by rw [Array.length_toList, ndC_size]; exact lnode_size) (by rw [Array.toArray_toList]; exact h)

set_option maxHeartbeats 4000000 in
set_option maxRecDepth 100000 in
theorem szNodeS_any (X : Nat → Nd) (A : Nat → Na) (ao : Option Addr) (n cp : Nat) (hm : n ≤ maxLen) (hf : ∀ i, i < n → (X i).Fit) (w : World) (P : ∀ i, i < n → NrAt w ao i (X i) (A i)) :
    Calls Tryz.prog 17 #[.slice ao n cp, .int .i64 1048576] w fun r w' => r = .returned (.int .i64 (if 1048576 < scT X n then -1 else 1048576 - (scT X n : Int))) ∧ Below w.heap.size w w' := by
  have hw : IntKind.i64.wrap (1048576 - (n : Int)) = 1048576 - n := IntWalk.i64_in _ (by unfold maxLen at hm; omega)
  obtain ⟨V, hV⟩ : ∃ V, Hid ((if 1048576 < scT X n then -1 else 1048576 - (scT X n : Int)) = V) := ⟨_, rfl⟩
  rw [unhide hV]
  replace P := hide P
  replace hf := hide hf
  by_cases hn : n ≤ 1048576
  rotate_left
  · have hneg : 1048576 - (n : Int) < 0 := by omega
    have hq := hide (show V = -1 by rw [← unhide hV, if_pos (by unfold scT; omega)])
    go_enter Tryz.func17, Tryz.ntmps17
    go_wp2_with fail
    go_ret
    exact ⟨by rw [unhide hq]; rfl, Below.refl _ _⟩
  have hneg : ¬ 1048576 - (n : Int) < 0 := by omega
  go_enter Tryz.func17, Tryz.ntmps17
  go_upto_region 5 with fail
  go_loopw [1, 5] (fun l i u => ∃ k : Nat, k ≤ n ∧ i = .int .i64 (k : Int) ∧ l = .int .i64 (1048576 - (n : Int) - (sumT X k : Int)) ∧ Hid (0 ≤ 1048576 - (n : Int) - (sumT X k : Int)) ∧ Hid (Below w.heap.size w u)) (fun _ i _ => n - (intOf i).toNat)
  case atStart => exact ⟨0, Nat.zero_le _, rfl, by show _ = Value.int .i64 (1048576 - (n : Int) - ((0 : Nat) : Int)); congr 1; omega, by unfold Hid sumT; omega, Below.refl _ _⟩
  case round =>
    obtain ⟨k, hk, rfl, rfl, H0, HB⟩ := hrel
    by_cases hkn : k < n
    · have hki : (k : Int) < (n : Int) := by omega
      have HP := hide ((unhide P k hkn).next (unhide HB))
      obtain ⟨b, o, hao, hrg⟩ := (unhide HP).range
      replace hrg := hide hrg
      subst hao
      obtain ⟨z, hz⟩ : ∃ z, Hid (1048576 - (n : Int) - (sumT X k : Int) = z) := ⟨_, rfl⟩
      rw [unhide hz] at H0 ⊢
      have E := hide (szNode_any (X k) (A k) (unhide hf k hkn) z ⟨unhide H0, by have := unhide hz; omega⟩)
      go_wp2_with (refine load_lnode rfl _ rfl b (o + k * 31) rfl (X k) (A k) (unhide hrg) ?_)
      go_fit (unhide E _)
      rintro r u1 ⟨rfl, hb⟩
      replace HB := hide (below_two (unhide HB) hb)
      clear hb hrg HP E
      by_cases ht : z < ((X k).tot : Int)
      · rw [if_pos ht]
        have hq := hide (show V = -1 by
          have h1 := sumT_le X hkn
          have h2 := unhide hz
          rw [← unhide hV, if_pos (by unfold scT; omega)])
        go_wp2_with fail
        go_ret
        exact ⟨by rw [unhide hq]; rfl, unhide HB⟩
      · rw [if_neg ht]
        have hge : ¬ z - ((X k).tot : Int) < 0 := by omega
        have hnx := hide (show z - ((X k).tot : Int) = 1048576 - (n : Int) - (sumT X (k + 1) : Int) by
          have h2 := unhide hz
          show _ = 1048576 - (n : Int) - ((sumT X k + (X k).tot : Nat) : Int)
          omega)
        go_wp2_with fail
        go_roundw
        case rel => exact ⟨k + 1, by omega, by go_num, by rw [unhide hnx], by unfold Hid; rw [← unhide hnx]; omega, HB⟩
        case measure => simp [intOf]; omega
    · have hke : k = n := by omega
      subst hke
      have hki : ¬ (k : Int) < (k : Int) := by omega
      have hq := hide (show 1048576 - (k : Int) - (sumT X k : Int) = V by
        have := unhide H0
        rw [← unhide hV, if_neg (by unfold scT; omega)]
        unfold scT
        omega)
      rw [unhide hq]
      go_wp2_with fail
      go_ret
      exact ⟨rfl, unhide HB⟩
end Go.Proofs.YtdbphpekhmlmdabGreat

/-
  The laws' toScene: a scene of one's own; scenes held against each other.
-/
namespace Go.Proofs.YtdbphpekhmlmdabGreat
open Go.RowKit
set_option linter.unusedVariables false

/-- A whole node into the middle of a row. -/
theorem store_node {ops : Array Oper} {rest : List Oper} {op : Oper} {a : Act} {w : World} {Q : Exit → Act → World → Prop} (hgd : op.guard = none) (y z : Operand) (ho : op.op = .store 59 y z)
    (b o : Nat) (x : Nd) (s : Na) (hx : a.eval y = .pointer (some ⟨b, o, none⟩)) (hy : a.eval z = .agg (ndC x s)) (ht : w.there b o 31)
    (h : wpList Tryz.prog ops Q rest (a.put op.dst undef) (w.setCells b o (ndC x s).toList)) : wpList Tryz.prog ops Q (op :: rest) a w :=
  wpList_store_mid hgd 59 y z ho b o (ndC x s) hx hy (by rw [ndC_size]; exact ht) (ndC_info x s) (ndC_one x s) h
theorem own_there {w : World} {base t g n cap k : Nat} {xs : List Value} (h : w.ownsRow base t 31 (.slice (some ⟨g, 0, none⟩) n cap) n xs) (hk : k < n) : w.there g (k * 31) 31 := fun j hj => by
  have hl := h.1
  refine ⟨?_, h.frozenAt _⟩
  rw [h.cellAt _ (by omega), List.getElem?_eq_getElem (by omega)]
  rfl

set_option maxHeartbeats 4000000 in
set_option maxRecDepth 100000 in
theorem toNodeS_own (X : Nat → Nd) (A : Nat → Na) (ao : Option Addr) (n cp : Nat) (hn : n ≤ 1048576) (hs : ∀ i, i < n → (X i).Small) (w : World) (P : ∀ i, i < n → NrAt w ao i (X i) (A i)) :
    Calls Tryz.prog 22 #[.slice ao n cp] w fun r w' => r = .returned (.slice (some ⟨w.heap.size, 0, none⟩) n n) ∧ (∃ A', ScV w' w.heap.size (some ⟨w.heap.size, 0, none⟩) n n X A') ∧ Below w.heap.size w w' := by
  obtain ⟨i0, hi, hz0, hz1, hz2⟩ := info_parts infoNode
  replace P := hide P
  replace hs := hide hs
  go_enter Tryz.func22, Tryz.ntmps22
  go_wp2_with (at_make; go_must (refine wpList_make_full w rfl _ _ 28 rfl w.heap.size 59 i0 (.agg ndZ) 31 Tryz.underlying28 hi hz0 hz1 .i64 .i64 _ _ n (by rfl) (by rfl) (by omega) (by omega) (by rw [hz2]; omega) (by unfold maxLen; omega) (Nat.le_refl _) ?_); intro w1 hown1 hg1)
  have B1 : Below w.heap.size w w1 := (Below.refl _ w).grown hg1 (Nat.le_refl _) (by simp)
  clear hg1
  obtain ⟨b, hb0⟩ : ∃ b, Hid (b = w.heap.size) := ⟨_, rfl⟩
  have hbl := hide (show w.heap.size ≤ b by rw [unhide hb0]; exact Nat.le_refl _)
  rw [← unhide hb0] at hown1 ⊢
  have hsz := hide (show b < w1.heap.size from (hown1.lt b rfl).2)
  rw [unhide hb0] at hown1
  rw [← unhide hb0] at hown1
  go_loopw [4] (fun i u => ∃ (k : Nat) (xs : List Value) (A' : Nat → Na) (K : Nat → Nat → Nat) (lo : Nat → Nat), k ≤ n ∧ i = .int .i64 k ∧ Hid (u.ownsRow b 59 31 (.slice (some ⟨b, 0, none⟩) n n) n xs) ∧ Hid (NsAt xs X A' k) ∧ Hid (ScN u b k X A' K lo) ∧ Hid (Below w.heap.size w u)) (fun i _ => n - (intOf i).toNat)
  case atStart => exact ⟨0, _, A, fun _ _ => 0, fun _ => b + 1, Nat.zero_le _, rfl, hown1, fun j hj => absurd hj (by omega), ⟨fun j hj => absurd hj (by omega), fun j hj => absurd hj (by omega), Nat.lt_succ_self _, unhide hsz⟩, B1⟩
  case round =>
    obtain ⟨k, xs, A', K, lo, hk, rfl, O, HX, HS, HB⟩ := hrel
    clear hown1 B1 hsz
    by_cases hlt : k < n
    · have hki : (k : Int) < (n : Int) := by omega
      have HP := hide ((unhide P k hlt).next (unhide HB))
      obtain ⟨bb, o, hao, hrg⟩ := (unhide HP).range
      replace hrg := hide hrg
      subst hao
      have E := hide (toNode_own (X k) (A k) (unhide hs k hlt) wr (unhide HP).inn)
      go_wp2_with (refine load_lnode rfl _ rfl bb (o + k * 31) rfl (X k) (A k) (unhide hrg) ?_)
      go_fit (unhide E)
      rintro r u1 ⟨s', Kn, rfl, hO, h5, hb⟩
      have hbu := hide (show b < wr.heap.size from ((unhide O).lt b rfl).2)
      replace HS := hide ((unhide HS).step (unhide hbu) hb hO h5)
      replace O := hide (own_below (unhide O) hb)
      replace HB := hide (below_two (unhide HB) hb)
      clear hb hO h5 hrg HP E hbu
      have hth := hide (own_there (unhide O) hlt)
      have hst := hide ((unhide HX).step s' (by have := (unhide O).1; omega))
      go_wp2_with (with_reducible refine store_node rfl _ _ rfl b (k * 31) (X k) s' rfl rfl (unhide hth) ?_)
      go_roundw
      case rel => exact ⟨k + 1, _, _, _, _, by omega, by go_num, own_setMany _ (unhide O), hst, (unhide HS).sets _ _, below_sets (unhide hbl) _ (unhide HB)⟩
      case measure => simp [intOf]; omega
    · have hke : k = n := by omega
      subst hke
      have hki : ¬ (k : Int) < (k : Int) := by omega
      go_wp2_with fail
      go_ret
      exact ⟨by rw [← unhide hb0]; rfl, ⟨A', by rw [← unhide hb0]; exact ⟨b, xs, K, lo, rfl, Nat.le_refl _, unhide O, unhide HX, unhide HS⟩⟩, unhide HB⟩

set_option maxHeartbeats 2000000 in
theorem szScene_any (X : Nat → Nd) (A : Nat → Na) (ao : Option Addr) (n cp : Nat) (hm : n ≤ maxLen) (hf : ∀ i, i < n → (X i).Fit) (w : World) (P : ∀ i, i < n → NrAt w ao i (X i) (A i)) :
    Calls Tryz.prog 5 #[.agg #[.slice ao n cp], .int .i64 1048576] w fun r w' => r = .returned (.int .i64 (if 1048576 < scT X n then -1 else 1048576 - (scT X n : Int))) ∧ Below w.heap.size w w' := by
  replace P := hide P
  have E := hide (fun u => szNodeS_any X A ao n cp hm hf u)
  go_enter Tryz.func5, Tryz.ntmps5
  go_upto_region 1 with fail
  have R := hide (new_row w (.cells #[.slice ao n cp] 24))
  have HB := hide (al1_below w (.cells #[.slice ao n cp] 24))
  generalize w.alloc (.cells #[.slice ao n cp] 24) = W at R HB ⊢
  obtain ⟨b1, hb1⟩ : ∃ b, Hid (b = w.heap.size) := ⟨_, rfl⟩
  rw [← unhide hb1] at R ⊢
  have c0 := row1 (unhide R)
  have F := hide (unhide E W (fun i hi => (unhide P i hi).next (unhide HB)))
  go_wp2_with fail
  go_fit (unhide F)
  rintro r w1 ⟨rfl, hb⟩
  replace HB := hide (below_two (unhide HB) hb)
  clear hb c0 F
  by_cases h : 1048576 < scT X n
  · rw [if_pos h]
    go_wp2_with fail
    go_ret
    exact ⟨rfl, unhide HB⟩
  · rw [if_neg h]
    have h0 : ¬ 1048576 - (scT X n : Int) < 0 := by omega
    go_wp2_with fail
    go_ret
    exact ⟨rfl, unhide HB⟩

theorem NdO.setc {w : World} {base b j : Nat} {K : Nat → Nat} {x : Nd} {s : Na} {v : Value} (h : NdO w base K x s) (hb : b < base) : NdO (w.setCell ⟨b, j, none⟩ v) base K x s :=
  let ⟨xs, a1, a2⟩ := h.v; let ⟨ys, b1, b2⟩ := h.p; let ⟨zs, c1, c2⟩ := h.d; let ⟨us, d1, d2⟩ := h.cv; let ⟨vs, e1, e2⟩ := h.cp
  ⟨⟨xs, own_setc a1 hb, a2⟩, ⟨ys, own_setc b1 hb, b2⟩, ⟨zs, own_setc c1 hb, c2⟩, ⟨us, own_setc d1 hb, d2⟩, ⟨vs, own_setc e1 hb, e2⟩, h.kv, h.kp, h.kd, h.kcv, h.kcp⟩
theorem ScV.setc {w : World} {base b j n c : Nat} {a : Option Addr} {X : Nat → Nd} {A : Nat → Na} {v : Value} (h : ScV w base a n c X A) (hb : b < base) : ScV (w.setCell ⟨b, j, none⟩ v) base a n c X A :=
  let ⟨q, ys, K, lo, h1, h2, h3, h4, h5⟩ := h; ⟨q, ys, K, lo, h1, h2, own_setc h3 hb, h4, fun i hi => (h5.own i hi).setc (by omega), h5.five, h5.first, by simpa [World.setCell] using h5.top⟩

set_option maxHeartbeats 4000000 in
set_option maxRecDepth 100000 in
theorem toScene_own (X : Nat → Nd) (A : Nat → Na) (ao : Option Addr) (n cp : Nat) (hn : n ≤ 1048576) (hs : ∀ i, i < n → (X i).Small) (w : World) (P : ∀ i, i < n → NrAt w ao i (X i) (A i)) :
    Calls Tryz.prog 7 #[.agg #[.slice ao n cp]] w fun r w' => ∃ a A', r = .returned (.agg #[.slice a n n]) ∧ ScV w' w.heap.size a n n X A' ∧ Below w.heap.size w w' := by
  replace P := hide P
  have E := hide (fun u => toNodeS_own X A ao n cp hn hs u)
  go_enter Tryz.func7, Tryz.ntmps7
  go_upto_region 2 with fail
  have R0 := hide (al3_0 w (.cells #[.slice ao n cp] 24) (.cells #[.slice none 0 0] 30) (.cells #[.slice none 0 0] 30))
  have R1 := hide (al3_1 w (.cells #[.slice ao n cp] 24) (.cells #[.slice none 0 0] 30) (.cells #[.slice none 0 0] 30))
  have R2 := hide (al3_2 w (.cells #[.slice ao n cp] 24) (.cells #[.slice none 0 0] 30) (.cells #[.slice none 0 0] 30))
  have HB := hide (al3_below w (.cells #[.slice ao n cp] 24) (.cells #[.slice none 0 0] 30) (.cells #[.slice none 0 0] 30))
  obtain ⟨b2, hb2⟩ : ∃ b, Hid (b = w.heap.size + 1 + 1) := ⟨_, rfl⟩
  obtain ⟨b1, hb1⟩ : ∃ b, Hid (b = w.heap.size + 1) := ⟨_, rfl⟩
  obtain ⟨b0, hb0⟩ : ∃ b, Hid (b = w.heap.size) := ⟨_, rfl⟩
  rw [← unhide hb2] at R2
  rw [← unhide hb1] at R1
  rw [← unhide hb0] at R0
  rw [← unhide hb2, ← unhide hb1, ← unhide hb0]
  have hne : Hid (b1 ≠ b2 ∧ w.heap.size ≤ b2 ∧ w.heap.size ≤ b1) := by unfold Hid; rw [unhide hb2, unhide hb1]; omega
  clear hb2 hb1 hb0
  generalize ((w.alloc (.cells #[.slice ao n cp] 24)).alloc (.cells #[.slice none 0 0] 30)).alloc (.cells #[.slice none 0 0] 30) = W at R0 R1 R2 HB ⊢
  have c0 := row1 (unhide R0)
  have F := hide (unhide E W (fun i hi => (unhide P i hi).next (unhide HB)))
  go_wp2_with fail
  go_fit (unhide F)
  rintro r w1 ⟨rfl, ⟨A', hV⟩, hb⟩
  have l1 := hide (show b1 < W.heap.size from heap_lt (unhide R1))
  have l2 := hide (show b2 < W.heap.size from heap_lt (unhide R2))
  have lw := hide (show w.heap.size ≤ W.heap.size from (unhide HB).size)
  replace R1 := hide (row_next hb (unhide R1))
  replace R2 := hide (row_next hb (unhide R2))
  replace HB := hide (below_two (unhide HB) hb)
  replace hV := hide hV
  clear hb c0 F R0
  generalize W.heap.size = b at hV l1 l2 lw ⊢
  have d0 := row1 (unhide R1)
  have e0 := row1 (unhide R2)
  have f1 := frozen_of_row w1 b1 0 _ _ (unhide R1)
  have f2 := frozen_of_row w1 b2 0 _ _ (unhide R2)
  have n1 : ¬ b1 = b2 := (unhide hne).1
  have n2 : ¬ b2 = b1 := fun e => (unhide hne).1 e.symm
  go_wp2_with fail
  refine bodyPost_ret (v := .agg #[.slice (some ⟨b, 0, none⟩) n n]) (by simp [results, Tryz.results7, go_sem, d0]) rfl ⟨_, A', rfl, ?_, ?_⟩
  · exact (((unhide hV).setc (unhide l2)).setc (unhide l1)).low (unhide lw)
  · exact ((unhide HB).setCell (p := ⟨b2, 0, none⟩) (unhide hne).2.1 _).setCell (p := ⟨b1, 0, none⟩) (unhide hne).2.2 _
end Go.Proofs.YtdbphpekhmlmdabGreat

/-
  Scenes held against each other. (By sceneq.py.)
-/
namespace Go.Proofs.YtdbphpekhmlmdabGreat
open Go.RowKit
set_option linter.unusedVariables false

theorem yields_node {ops : Array Oper} {S : World → Prop} {op : Oper} {a : Act} (hw : Region.wanted op (yielded ops a.tmps) = true) (y : Operand) (ho : op.op = .load 59 y)
    (b o : Nat) (hx : a.eval y = .pointer (some ⟨b, o, none⟩)) (x : Nd) (s : Na) (hS : ∀ w, S w → w.rangeAt b o (ndC x s).toList) : YieldsIf Tryz.prog ops S op (.agg (ndC x s)) a := by
  have h := yieldsIf_load_mid (P := Tryz.prog) hw 59 y ho b o hx (ndC x s).toList _ hS Tryz.underlying59 rfl (ndC_infoL x s)
  rwa [Array.toArray_toList] at h
theorem range_next {w u : World} {b o : Nat} {cs : List Value} (h : w.rangeAt b o cs) (hb : Below w.heap.size w u) : u.rangeAt b o cs := fun j v hv => kc hb (h j v hv)

set_option maxHeartbeats 4000000 in
set_option maxRecDepth 100000 in
theorem eqNodeS_same (X : Nat → Nd) (A A' : Nat → Na) (ao bo : Option Addr) (n cp cp' : Nat) (hn : n ≤ 1048576) (hs : ∀ i, i < n → (X i).Small) (w : World) (P : ∀ i, i < n → NrAt w ao i (X i) (A i)) (P' : ∀ i, i < n → NrAt w bo i (X i) (A' i)) :
    Calls Tryz.prog 27 #[.slice ao n cp, .slice bo n cp'] w fun r w' => r = .returned (.bool true) ∧ Below w.heap.size w w' := by
  replace P := hide P
  replace P' := hide P'
  replace hs := hide hs
  go_enter Tryz.func27, Tryz.ntmps27
  go_upto_region 4 with fail
  go_loopw [5] (fun i u => ∃ k : Nat, k ≤ n ∧ i = .int .i64 (k : Int) ∧ Hid (Below w.heap.size w u)) (fun i _ => n - (intOf i).toNat)
  case atStart => exact ⟨0, Nat.zero_le _, rfl, Below.refl _ _⟩
  case round =>
    obtain ⟨k, hk, rfl, HB⟩ := hrel
    by_cases hlt : k < n
    · have hki : (k : Int) < (n : Int) := by omega
      obtain ⟨b, o, hao, hrg⟩ := ((unhide P k hlt).next (unhide HB)).range
      obtain ⟨b', o', hao', hrg'⟩ := ((unhide P' k hlt).next (unhide HB)).range
      have HN := hide ((unhide P k hlt).next (unhide HB)).inn
      have HN' := hide ((unhide P' k hlt).next (unhide HB)).inn
      replace hrg := hide hrg
      replace hrg' := hide hrg'
      subst hao
      subst hao'
      have E := hide (eqNode_same (X k) (A k) (A' k) (unhide hs k hlt) wr.drew ((unhide HN).next (Below.refl _ _).drew) ((unhide HN').next (Below.refl _ _).drew))
      have hkeep : ∀ u, Below wr.drew.heap.size wr.drew u → (u.rangeAt b (o + k * 31) (ndC (X k) (A k)).toList ∧ u.rangeAt b' (o' + k * 31) (ndC (X k) (A' k)).toList) := fun u h => ⟨range_next (unhide hrg) (below_undrew h), range_next (unhide hrg') (below_undrew h)⟩
      go_upto_region 6 with fail
      refine wp_region_held_drew (S := (fun u => u.rangeAt b (o + k * 31) (ndC (X k) (A k)).toList ∧ u.rangeAt b' (o' + k * 31) (ndC (X k) (A' k)).toList)) (by kernel_rfl) ?_ (fun hHeld => ?_)
      · exact ⟨unhide hrg, unhide hrg'⟩
      refine wpAnyH_take (i := 0) (oi := { dst := some 17, op := Op.move (Operand.tmp 0), type := 28, pos := "exact.go:846", after := #[], guard := none }) (v := ?_) rfl (by kernel_rfl) (by kernel_rfl) (by kernel_rfl) (fun _ _ _ h => h) (Or.inl ⟨by rfl, ?_⟩) (by assumption) ?_
      rotate_left
      · intro w hSw; (try dsimp only at hSw); go_simp <;> with_reducible rfl
      try simp only [Act.put, List.setIfInBounds_toArray, List.set_cons_zero, List.set_cons_succ]
      refine wpAnyH_take (i := 1) (oi := { dst := some 18, op := Op.move (Operand.tmp 5), type := 3, pos := "exact.go:846", after := #[], guard := none }) (v := ?_) rfl (by kernel_rfl) (by kernel_rfl) (by kernel_rfl) (fun _ _ _ h => h) (Or.inl ⟨by rfl, ?_⟩) (by assumption) ?_
      rotate_left
      · intro w hSw; (try dsimp only at hSw); go_simp <;> with_reducible rfl
      try simp only [Act.put, List.setIfInBounds_toArray, List.set_cons_zero, List.set_cons_succ]
      refine wpAnyH_take (i := 2) (oi := { dst := some 19, op := Op.indexAddr 28 (Operand.tmp 17) (Operand.tmp 18), type := 0, pos := "exact.go:846", after := #[{ on := 0, ground := Ground.data }, { on := 1, ground := Ground.data }], guard := none }) (v := ?_) rfl (by kernel_rfl) (by kernel_rfl) (by kernel_rfl) (fun _ _ _ h => h) (Or.inl ⟨by rfl, ?_⟩) (by assumption) ?_
      rotate_left
      · intro w hSw; (try dsimp only at hSw); go_simp <;> with_reducible rfl
      try simp only [Act.put, List.setIfInBounds_toArray, List.set_cons_zero, List.set_cons_succ]
      refine wpAnyH_take (i := 3) (oi := { dst := some 20, op := Op.load 59 (Operand.tmp 19), type := 59, pos := "exact.go:846", after := #[{ on := 2, ground := Ground.data }], guard := none }) (v := .agg (ndC (X k) (A k))) rfl (by kernel_rfl) (by kernel_rfl) (by kernel_rfl) (fun _ _ _ h => h) (yields_node (by rfl) _ rfl b (o + k * 31) rfl (X k) (A k) (fun w h => h.1)) (by assumption) ?_
      try simp only [Act.put, List.setIfInBounds_toArray, List.set_cons_zero, List.set_cons_succ]
      refine wpAnyH_take (i := 4) (oi := { dst := some 21, op := Op.move (Operand.tmp 1), type := 28, pos := "exact.go:846", after := #[], guard := none }) (v := ?_) rfl (by kernel_rfl) (by kernel_rfl) (by kernel_rfl) (fun _ _ _ h => h) (Or.inl ⟨by rfl, ?_⟩) (by assumption) ?_
      rotate_left
      · intro w hSw; (try dsimp only at hSw); go_simp <;> with_reducible rfl
      try simp only [Act.put, List.setIfInBounds_toArray, List.set_cons_zero, List.set_cons_succ]
      refine wpAnyH_take (i := 5) (oi := { dst := some 22, op := Op.move (Operand.tmp 5), type := 3, pos := "exact.go:846", after := #[], guard := none }) (v := ?_) rfl (by kernel_rfl) (by kernel_rfl) (by kernel_rfl) (fun _ _ _ h => h) (Or.inl ⟨by rfl, ?_⟩) (by assumption) ?_
      rotate_left
      · intro w hSw; (try dsimp only at hSw); go_simp <;> with_reducible rfl
      try simp only [Act.put, List.setIfInBounds_toArray, List.set_cons_zero, List.set_cons_succ]
      refine wpAnyH_take (i := 6) (oi := { dst := some 23, op := Op.indexAddr 28 (Operand.tmp 21) (Operand.tmp 22), type := 0, pos := "exact.go:846", after := #[{ on := 4, ground := Ground.data }, { on := 5, ground := Ground.data }], guard := none }) (v := ?_) rfl (by kernel_rfl) (by kernel_rfl) (by kernel_rfl) (fun _ _ _ h => h) (Or.inl ⟨by rfl, ?_⟩) (by assumption) ?_
      rotate_left
      · intro w hSw; (try dsimp only at hSw); go_simp <;> with_reducible rfl
      try simp only [Act.put, List.setIfInBounds_toArray, List.set_cons_zero, List.set_cons_succ]
      refine wpAnyH_take (i := 7) (oi := { dst := some 24, op := Op.load 59 (Operand.tmp 23), type := 59, pos := "exact.go:846", after := #[{ on := 6, ground := Ground.data }], guard := none }) (v := .agg (ndC (X k) (A' k))) rfl (by kernel_rfl) (by kernel_rfl) (by kernel_rfl) (fun _ _ _ h => h) (yields_node (by rfl) _ rfl b' (o' + k * 31) rfl (X k) (A' k) (fun w h => h.2)) (by assumption) ?_
      try simp only [Act.put, List.setIfInBounds_toArray, List.set_cons_zero, List.set_cons_succ]
      refine wpAnyH_ready (rs := [8]) (by kernel_rfl) (by simp) ?_
      refine AllReadyH.cons (o := { dst := some 25, op := Op.call { callee := Callee.value (Operand.func 60), args := #[Operand.tmp 20, Operand.tmp 24], argTypes := #[59, 59] }, type := 4, pos := "exact.go:846", after := #[{ on := 3, ground := Ground.data }, { on := 7, ground := Ground.data }], guard := none }) rfl (fun K hK => ?_) AllReadyH.nil
      go_simp
      (first | (go_at_call 60; go_fit (unhide E); rintro e w4 ⟨rfl, hb⟩))
      refine hK.out _ _ ?_ (fun hHeld => ?_)
      · exact hkeep _ (by assumption)
      clear hK K
      try simp only [Act.put, List.setIfInBounds_toArray, List.set_cons_zero, List.set_cons_succ]
      refine wpAnyH_take (i := 9) (oi := { dst := some 26, op := Op.unOp UnOp.not 4 (Operand.tmp 25), type := 4, pos := "exact.go:846", after := #[{ on := 8, ground := Ground.data }], guard := none }) (v := ?_) rfl (by kernel_rfl) (by kernel_rfl) (by kernel_rfl) (fun _ _ _ h => h) (Or.inl ⟨by rfl, ?_⟩) (by assumption) ?_
      rotate_left
      · intro w hSw; (try dsimp only at hSw); go_simp <;> with_reducible rfl
      try simp only [Act.put, List.setIfInBounds_toArray, List.set_cons_zero, List.set_cons_succ]
      refine wpAnyH_done (by kernel_rfl) ?_ _
      replace HB := hide (below_two (unhide HB) (below_undrew hb))
      go_wp2_with fail
      go_roundw
      case rel => exact ⟨k + 1, by omega, by go_num, HB⟩
      case measure => simp [intOf]; omega
    · have hke : k = n := by omega
      subst hke
      have hki : ¬ (k : Int) < (k : Int) := by omega
      go_wp2_with fail
      go_ret
      exact ⟨rfl, unhide HB⟩

set_option maxHeartbeats 2000000 in
theorem eqScene_same (X : Nat → Nd) (A A' : Nat → Na) (ao bo : Option Addr) (n cp cp' : Nat) (hn : n ≤ 1048576) (hs : ∀ i, i < n → (X i).Small) (w : World) (P : ∀ i, i < n → NrAt w ao i (X i) (A i)) (P' : ∀ i, i < n → NrAt w bo i (X i) (A' i)) :
    Calls Tryz.prog 10 #[.agg #[.slice ao n cp], .agg #[.slice bo n cp']] w fun r w' => r = .returned (.bool true) ∧ Below w.heap.size w w' := by
  replace P := hide P
  replace P' := hide P'
  have E := hide (fun u => eqNodeS_same X A A' ao bo n cp cp' hn hs u)
  go_enter Tryz.func10, Tryz.ntmps10
  go_upto_region 1 with fail
  have R1 := hide (al2_0 w (.cells #[.slice ao n cp] 30) (.cells #[.slice bo n cp'] 30))
  have R2 := hide (al2_1 w (.cells #[.slice ao n cp] 30) (.cells #[.slice bo n cp'] 30))
  have HB := hide (al2_below w (.cells #[.slice ao n cp] 30) (.cells #[.slice bo n cp'] 30))
  obtain ⟨b2, hb2⟩ : ∃ b, Hid (b = w.heap.size + 1) := ⟨_, rfl⟩
  obtain ⟨b1, hb1⟩ : ∃ b, Hid (b = w.heap.size) := ⟨_, rfl⟩
  rw [← unhide hb2] at R2
  rw [← unhide hb1] at R1
  rw [← unhide hb2, ← unhide hb1]
  generalize (w.alloc (.cells #[.slice ao n cp] 30)).alloc (.cells #[.slice bo n cp'] 30) = W at R1 R2 HB ⊢
  have c0 := row1 (unhide R1)
  have d0 := row1 (unhide R2)
  have F := hide (unhide E W (fun i hi => (unhide P i hi).next (unhide HB)) (fun i hi => (unhide P' i hi).next (unhide HB)))
  go_wp2_with fail
  go_fit (unhide F)
  rintro r w1 ⟨rfl, hb⟩
  replace HB := hide (below_two (unhide HB) hb)
  go_wp2_with fail
  go_ret
  exact ⟨rfl, unhide HB⟩
end Go.Proofs.YtdbphpekhmlmdabGreat

/-
  The exact laws of SceneOk, NodeAt and DepthOf, from what the program's functions answer. (By scenelaw.py.)
-/
namespace Go.Proofs.YtdbphpekhmlmdabGreat
open Go.RowKit
set_option linter.unusedVariables false

theorem NdO.caps {w : World} {base : Nat} {K : Nat → Nat} {x : Nd} {s : Na} (h : NdO w base K x s) : Caps x s :=
  let ⟨_, a1, _⟩ := h.v; let ⟨_, b1, _⟩ := h.p; let ⟨_, c1, _⟩ := h.d; let ⟨_, d1, _⟩ := h.cv; let ⟨_, e1, _⟩ := h.cp
  ⟨own_caps a1, own_caps b1, own_caps c1, own_caps d1, own_caps e1⟩
theorem ScV.caps {w : World} {base n c : Nat} {a : Option Addr} {X : Nat → Nd} {A : Nat → Na} (h : ScV w base a n c X A) : ∀ i, i < n → Caps (X i) (A i) :=
  let ⟨_, _, _, _, _, _, _, _, h5⟩ := h; fun i hi => (h5.own i hi).caps
theorem ScV.some {w : World} {base n c : Nat} {a : Option Addr} {X : Nat → Nd} {A : Nat → Na} (h : ScV w base a n c X A) : a = none → c = 0 :=
  let ⟨_, _, _, _, h1, _⟩ := h; fun e => by rw [h1] at e; cases e

end Go.Proofs.YtdbphpekhmlmdabGreat

/-
  A row of nodes while it is marked.
-/
namespace Go.Proofs.YtdbphpekhmlmdabGreat
open Go.RowKit
set_option linter.unusedVariables false

def upd2 (D : Nat → Nat → Value) (i m : Nat) (v : Value) : Nat → Nat → Value := fun j q => if j = i ∧ q = m then v else D j q
theorem upd2_at (D : Nat → Nat → Value) (i m : Nat) (v : Value) : upd2 D i m v i m = v := if_pos ⟨rfl, rfl⟩
theorem upd2_col (D : Nat → Nat → Value) (i m : Nat) (v : Value) {q : Nat} (h : q ≠ m) : upd2 D i m v i q = D i q := if_neg (fun e => h e.2)
theorem upd2_row (D : Nat → Nat → Value) (i m : Nat) (v : Value) {j : Nat} (h : j ≠ i) (q : Nat) : upd2 D i m v j q = D j q := if_neg (fun e => h e.1)
/-- A row of n nodes of one's own: cell m of node j is D j m. -/
def RowD (u : World) (B b n c : Nat) (D : Nat → Nat → Value) : Prop := ∃ xs, u.ownsRow B 59 31 (.slice (some ⟨b, 0, none⟩) n c) n xs ∧ ∀ j, j < n → ∀ m, m < 31 → xs[j * 31 + m]? = some (D j m)
theorem RowD.cell {u : World} {B b n c : Nat} {D : Nat → Nat → Value} (h : RowD u B b n c D) {i m : Nat} (hi : i < n) (hm : m < 31) : u.cell? ⟨b, i * 31 + m, none⟩ = some (D i m) := by
  obtain ⟨xs, h1, h2⟩ := h
  rw [h1.cellAt _ (by omega)]
  exact h2 i hi m hm
theorem RowD.free {u : World} {B b n c : Nat} {D : Nat → Nat → Value} (h : RowD u B b n c D) (o : Nat) : u.frozen? ⟨b, o, none⟩ = false := let ⟨_, h1, _⟩ := h; h1.frozenAt o
theorem RowD.set {u : World} {B b n c : Nat} {D : Nat → Nat → Value} (h : RowD u B b n c D) (i m : Nat) (v : Value) (hm : m < 31) : RowD (u.setCell ⟨b, i * 31 + m, none⟩ v) B b n c (upd2 D i m v) := by
  obtain ⟨xs, h1, h2⟩ := h
  refine ⟨_, (h1.stored (i * 31 + m) v).1, fun j hj q hq => ?_⟩
  have hl := h1.1
  by_cases e : j = i ∧ q = m
  · obtain ⟨rfl, rfl⟩ := e
    rw [upd2_at, List.getElem?_set_self (by omega)]
  · rw [List.getElem?_set_ne (by omega), h2 j hj q hq]
    exact congrArg some (if_neg e).symm
theorem RowD.next {u u' : World} {B b n c : Nat} {D : Nat → Nat → Value} (h : RowD u B b n c D) (hb : Below u.heap.size u u') : RowD u' B b n c D := let ⟨xs, h1, h2⟩ := h; ⟨xs, own_below h1 hb, h2⟩
theorem RowD.kept {u u' : World} {B b n c : Nat} {D : Nat → Nat → Value} {k : Option Nat} (h : RowD u B b n c D) (hg : u.grownBy u' k) (hk : k ≠ some b) : RowD u' B b n c D :=
  let ⟨xs, h1, h2⟩ := h; ⟨xs, h1.kept hg (.inr (fun e => hk e.symm)), h2⟩
theorem RowD.lt {u : World} {B b n c : Nat} {D : Nat → Nat → Value} (h : RowD u B b n c D) : B ≤ b ∧ b < u.heap.size := let ⟨xs, h1, _⟩ := h; h1.lt b rfl
/-- Nothing but the blocks b .. T has changed. -/
structure FarB (b T : Nat) (w u : World) : Prop where
  os : u.os = w.os
  tape : u.tape = w.tape
  output : u.output = w.output
  size : w.heap.size ≤ u.heap.size
  out : ∀ q, q < w.heap.size → q < b ∨ T ≤ q → u.heap[q]? = w.heap[q]?
theorem FarB.refl (b T : Nat) (w : World) : FarB b T w w := ⟨rfl, rfl, rfl, Nat.le_refl _, fun _ _ _ => rfl⟩
theorem FarB.grown {b T : Nat} {w u u' : World} {k : Option Nat} (h : FarB b T w u) (hg : u.grownBy u' k) (hk : ∀ q, k = some q → b ≤ q ∧ q < T) : FarB b T w u' :=
  ⟨hg.os.trans h.os, hg.tape.trans h.tape, hg.output.trans h.output, Nat.le_trans h.size hg.size, fun q hq ho => (hg.block q (Nat.lt_of_lt_of_le hq h.size) (fun e => by have := hk q e.symm; omega)).trans (h.out q hq ho)⟩
theorem FarB.below {b T : Nat} {w u : World} (h : FarB b T w u) {B : Nat} (hB : B ≤ b) (hw : B ≤ w.heap.size) : Below B w u := ⟨h.os, h.tape, h.output, h.size, fun q hq => h.out q (by omega) (.inl (by omega))⟩
theorem FarB.own {b T : Nat} {w u : World} (h : FarB b T w u) {base e s n : Nat} {v : Value} {xs : List Value} (ho : w.ownsRow base e s v n xs) (hv : ∀ k, v.ownBlock = some k → k < b ∨ T ≤ k) : u.ownsRow base e s v n xs := by
  cases hk : v.ownBlock with
  | none =>
    obtain ⟨h1, h2 | ⟨g, cap, cur, rfl, h3⟩⟩ := ho
    · exact ⟨h1, .inl h2⟩
    · cases hk
  | some k =>
    obtain ⟨h1, h2 | ⟨g, cap, cur, rfl, h3, h4, h5⟩⟩ := ho
    · rw [h2.1] at hk; cases hk
    · cases hk
      have hlt : g < w.heap.size := heap_lt h4
      exact ⟨h1, .inr ⟨g, cap, cur, rfl, h3, (h.out g hlt (hv g rfl)).trans h4, h5⟩⟩
end Go.Proofs.YtdbphpekhmlmdabGreat

/-
  The lists of a scene while they are marked. (By markn.py.)
-/
namespace Go.Proofs.YtdbphpekhmlmdabGreat
open Go.RowKit
set_option linter.unusedVariables false

/-- The five lists of a node: value, length, type and size of an element. -/
def lvl (x : Nd) (s : Na) : Nat → Value
  | 0 => .slice s.av x.nv s.cv | 1 => .slice s.ap x.np s.cp | 2 => .slice s.ad x.nd s.cd | 3 => .slice s.bv x.mv s.dv | _ => .slice s.bp x.mp s.dp
def lnl (x : Nd) : Nat → Nat
  | 0 => x.nv | 1 => x.np | 2 => x.nd | 3 => x.mv | _ => x.mp
def lty : Nat → TypeId
  | 1 => 55 | 4 => 55 | _ => 3
def lsz : Nat → Nat
  | 1 => 2 | 4 => 2 | _ => 1
/-- Each list is one's own, in a block of its own; those that are marked (st) bear their marks. -/
structure LS (u : World) (b n : Nat) (X : Nat → Nd) (A : Nat → Na) (K : Nat → Nat → Nat) (lo : Nat → Nat) (st : Nat → Nat → Option Nat) : Prop where
  own : ∀ j, j < n → ∀ l, l < 5 → ∃ xs, u.ownsRow (b + 1) (lty l) (lsz l) (lvl (X j) (A j) l) (lnl (X j) l) xs ∧ ∀ k, st j l = some k → Ramp xs k (lnl (X j) l * lsz l)
  blk : ∀ j, j < n → ∀ l, l < 5 → ∀ k, (lvl (X j) (A j) l).ownBlock = some k → k = K j l
  five : ∀ j, j < n → Five (K j) (lo j) (lo (j + 1))
theorem ScN.lists {u : World} {b n : Nat} {X : Nat → Nd} {A : Nat → Na} {K : Nat → Nat → Nat} {lo : Nat → Nat} (h : ScN u b n X A K lo) : LS u b n X A K lo (fun _ _ => none) := by
  refine ⟨fun j hj l hl => ?_, fun j hj l hl => ?_, h.five⟩
  · have o := h.own j hj
    obtain ⟨x0, a0, _⟩ := o.v
    obtain ⟨x1, a1, _⟩ := o.p
    obtain ⟨x2, a2, _⟩ := o.d
    obtain ⟨x3, a3, _⟩ := o.cv
    obtain ⟨x4, a4, _⟩ := o.cp
    rcases l with _ | _ | _ | _ | _ | l
    · exact ⟨x0, a0, fun k e => by cases e⟩
    · exact ⟨x1, a1, fun k e => by cases e⟩
    · exact ⟨x2, a2, fun k e => by cases e⟩
    · exact ⟨x3, a3, fun k e => by cases e⟩
    · exact ⟨x4, a4, fun k e => by cases e⟩
    · omega
  · have o := h.own j hj
    rcases l with _ | _ | _ | _ | _ | l
    · exact o.kv
    · exact o.kp
    · exact o.kd
    · exact o.kcv
    · exact o.kcp
    · omega
theorem lo_mono {K : Nat → Nat → Nat} {lo : Nat → Nat} {n : Nat} (h : ∀ j, j < n → Five (K j) (lo j) (lo (j + 1))) : ∀ {i j : Nat}, i ≤ j → j ≤ n → lo i ≤ lo j := by
  intro i j hij hj
  induction j with
  | zero => obtain rfl : i = 0 := by omega
            exact Nat.le_refl _
  | succ j ih =>
    by_cases e : i = j + 1
    · subst e; exact Nat.le_refl _
    · have h1 := ih (by omega) (by omega)
      have h2 := (h j (by omega)).low 0 (by omega)
      omega
theorem K_inj {K : Nat → Nat → Nat} {lo : Nat → Nat} {n : Nat} (h : ∀ j, j < n → Five (K j) (lo j) (lo (j + 1))) {i j l m : Nat} (hi : i < n) (hj : j < n) (hl : l < 5) (hm : m < 5) (e : K i l = K j m) : i = j ∧ l = m := by
  have a := (h i hi).low l hl
  have c := (h j hj).low m hm
  by_cases hij : i = j
  · subst hij; exact ⟨rfl, (h i hi).inj l m hl hm e⟩
  · by_cases hlt : i < j
    · have := lo_mono h (i := i + 1) (j := j) (by omega) (by omega); omega
    · have := lo_mono h (i := j + 1) (j := i) (by omega) (by omega); omega
theorem LS.setc {u : World} {b n o : Nat} {X : Nat → Nd} {A : Nat → Na} {K : Nat → Nat → Nat} {lo : Nat → Nat} {st : Nat → Nat → Option Nat} {v : Value} (h : LS u b n X A K lo st) : LS (u.setCell ⟨b, o, none⟩ v) b n X A K lo st :=
  ⟨fun j hj l hl => let ⟨xs, h1, h2⟩ := h.own j hj l hl; ⟨xs, own_setc h1 (Nat.lt_succ_self _), h2⟩, h.blk, h.five⟩
def updO (st : Nat → Nat → Option Nat) (i l k : Nat) : Nat → Nat → Option Nat := fun j m => if j = i ∧ m = l then some k else st j m
theorem LS.mark {u u' : World} {b n i l k : Nat} {X : Nat → Nd} {A : Nat → Na} {K : Nat → Nat → Nat} {lo : Nat → Nat} {st : Nat → Nat → Option Nat} (h : LS u b n X A K lo st) (hi : i < n) (hl : l < 5)
    (hm : ∃ ys, u'.ownsRow (b + 1) (lty l) (lsz l) (lvl (X i) (A i) l) (lnl (X i) l) ys ∧ Ramp ys k (lnl (X i) l * lsz l)) (hg : u.grownBy u' (lvl (X i) (A i) l).ownBlock) : LS u' b n X A K lo (updO st i l k) := by
  refine ⟨fun j hj m hm' => ?_, h.blk, h.five⟩
  by_cases e : j = i ∧ m = l
  · obtain ⟨rfl, rfl⟩ := e
    obtain ⟨ys, h1, h2⟩ := hm
    refine ⟨ys, h1, fun k' e' => ?_⟩
    unfold updO at e'
    rw [if_pos ⟨rfl, rfl⟩] at e'
    cases e'
    exact h2
  · obtain ⟨xs, h1, h2⟩ := h.own j hj m hm'
    refine ⟨xs, h1.kept hg ?_, fun k' e' => h2 k' (by unfold updO at e'; rwa [if_neg e] at e')⟩
    cases hk : (lvl (X j) (A j) m).ownBlock with
    | none => exact .inl rfl
    | some q =>
      refine .inr fun e2 => e ?_
      have a := h.blk j hj m hm' q hk
      have c := h.blk i hi l hl q e2.symm
      exact K_inj h.five hj hi hm' hl (by rw [← a, ← c])
theorem LS.block {u : World} {b n i l : Nat} {X : Nat → Nd} {A : Nat → Na} {K : Nat → Nat → Nat} {lo : Nat → Nat} {st : Nat → Nat → Option Nat} (h : LS u b n X A K lo st) (h0 : b < lo 0) (hi : i < n) (hl : l < 5) : ∀ k, (lvl (X i) (A i) l).ownBlock = some k → b < k ∧ k < lo n := fun k e => by
  have a := h.blk i hi l hl k e
  have c := (h.five i hi).low l hl
  have d := lo_mono h.five (i := 0) (j := i) (by omega) (by omega)
  have f := lo_mono h.five (i := i + 1) (j := n) (by omega) (by omega)
  omega
/-- How many marks a node takes, and the marks of its cells. -/
def Nd.mk26 (x : Nd) : Nat := 26 + x.nv + x.np * 2 + x.nd + x.mv + x.mp * 2
def kN (X : Nat → Nd) : Nat → Nat
  | 0 => 1
  | i + 1 => kN X i + (X i).mk26
theorem kN_le (X : Nat → Nd) : ∀ i, kN X i ≤ 1 + i * 26 + sumT X i * 2
  | 0 => by show 1 ≤ _; omega
  | i + 1 => by
    have := kN_le X i
    show kN X i + (X i).mk26 ≤ 1 + (i + 1) * 26 + (sumT X i + (X i).tot) * 2
    unfold Nd.mk26 Nd.tot
    omega
end Go.Proofs.YtdbphpekhmlmdabGreat
