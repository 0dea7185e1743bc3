/-
  MatS · SceneL · SceneT · SceneQ · LinesL · SamesL · SamePa · SameN · MatsL: texts of one claim, in one.
-/
import Derived.Test.YtdbphpekhmlmdaaFnMatsM6
import Derived.Test.YtdbphpekhmlmdaaFnMatsM3
import Derived.Test.YtdbphpekhmlmdaaFnMatsM5
import Derived.Test.YtdbphpekhmlmdaaFnMatsM4
import Derived.Deep.RegionHeld3
import Derived.Deep.DeepCutAuto
import Derived.Deep.DeepFit
import Derived.Test.YtdbphpekhmlmdaaFnMatsM1
import Derived.Test.YtdbphpekhmlmdaaFnMatsM2

/-
  The specification's MatOf. (By mati.py.)
-/
namespace Go.Proofs.Ytdbphpekhmlmdaa
open Go.RowKit
set_option linter.unusedVariables false

theorem matM_z {X : Nat → Nd} {n : Nat} (hS : ScOk X n) (f : Nat) (m : M6) : upM X n f 0 m = (m, true) := upM_none (scOk_noZ hS) f m

set_option maxHeartbeats 8000000 in
set_option maxRecDepth 100000 in
theorem specMatOf_any (X : Nat → Nd) (A : Nat → Na) (ao : Option Addr) (n cp : Nat) (hn : n ≤ 1048576) (hs : ∀ i, i < n → (X i).Small) (id : Int) (w : World) (P : ∀ i, i < n → NrAt w ao i (X i) (A i)) :
    Calls Try.prog 8 #[.agg #[.slice ao n cp], .int .i64 id] w fun r w' => r = .returned (.tuple #[.agg (mC (matM X n id).1), .bool (matM X n id).2]) ∧ Below w.heap.size w w' := by
  have E1 := hide (fun u (hu : Below w.heap.size w u) => specSceneOk_any X A ao n cp hn hs u (fun i hi => (P i hi).next hu))
  have E2 := hide (fun z u (hu : Below w.heap.size w u) => specNodeAt_any X A ao n cp hn z u (fun i hi => (P i hi).next hu))
  have hbad := hide (fun (h : sceneOkB X n = false) => matM_bad (id := id) h)
  have hnone := hide (fun (h : firstN X id n < 0) => matM_none (X := X) (n := n) h)
  have hyes := hide (fun (h1 : sceneOkB X n = true) (h : ¬ firstN X id n < 0) => matM_is h1 h)
  obtain ⟨R, hR⟩ : ∃ R, Hid (matM X n id = R) := ⟨_, rfl⟩
  rw [unhide hR] at hbad hnone hyes ⊢
  have NN := hide (fun u (hu : Below w.heap.size w u) i (hi : i < n) => (P i hi).next hu)
  clear P hs hR
  go_enter Try.func8, Try.ntmps8
  go_upto_region 1 with fail
  have R2 := hide (al2_0 w (.cells #[.slice ao n cp] 26) (.cells #[.int .i64 0, .int .i64 0, .int .i64 0, .int .i64 0, .int .i64 0, .int .i64 0] 29))
  have R4 := hide (show ((w.alloc (.cells #[.slice ao n cp] 26)).alloc (.cells #[.int .i64 0, .int .i64 0, .int .i64 0, .int .i64 0, .int .i64 0, .int .i64 0] 29)).heap[w.heap.size + 1]? = some (.cells (mC zero6) 29 (0, 0)) from al2_1 w (.cells #[.slice ao n cp] 26) (.cells #[.int .i64 0, .int .i64 0, .int .i64 0, .int .i64 0, .int .i64 0, .int .i64 0] 29))
  have HB := hide (al2_below w (.cells #[.slice ao n cp] 26) (.cells #[.int .i64 0, .int .i64 0, .int .i64 0, .int .i64 0, .int .i64 0, .int .i64 0] 29))
  have l4 := hide (show w.heap.size + 1 < ((w.alloc (.cells #[.slice ao n cp] 26)).alloc (.cells #[.int .i64 0, .int .i64 0, .int .i64 0, .int .i64 0, .int .i64 0, .int .i64 0] 29)).heap.size by rw [al1_size, al1_size]; omega)
  generalize (w.alloc (.cells #[.slice ao n cp] 26)).alloc (.cells #[.int .i64 0, .int .i64 0, .int .i64 0, .int .i64 0, .int .i64 0, .int .i64 0] 29) = W at R2 R4 HB l4 ⊢
  obtain ⟨b2, hb2⟩ : ∃ b, Hid (b = w.heap.size) := ⟨_, rfl⟩
  rw [← unhide hb2] at R2 R4 ⊢
  have l2 := hide (show w.heap.size ≤ b2 ∧ b2 + 1 < W.heap.size by rw [unhide hb2]; exact ⟨Nat.le_refl _, unhide l4⟩)
  clear hb2 l4
  have c2 := row1 (unhide R2)
  go_wp2_with fail
  go_fit (unhide E1 _ (unhide HB))
  rintro r w1 ⟨rfl, hb⟩
  replace R2 := hide (row_next hb (unhide R2))
  replace R4 := hide (row_next hb (unhide R4))
  replace HB := hide (below_two (unhide HB) hb)
  replace l2 := hide (show w.heap.size ≤ b2 ∧ b2 + 1 < w1.heap.size from ⟨(unhide l2).1, Nat.lt_of_lt_of_le (unhide l2).2 hb.size⟩)
  clear hb c2 E1
  cases hok : sceneOkB X n with
  | false =>
    have hR := hide (unhide hbad hok)
    clear hbad hok hnone hyes
    have HB2 := hide (below_setRow (unhide HB) (show w.heap.size ≤ b2 + 1 by have := unhide l2; omega) (mC zero6))
    have R4s := hide (mrow_set (C := mC zero6) (unhide R4))
    (try go_wp2_with (refine mat_put rfl _ _ rfl (b2 + 1) (mC zero6) zero6 rfl rfl (unhide R4) rfl ?_))
    generalize w1.setRow (b2 + 1) (mC zero6) = W2 at HB2 R4s ⊢
    obtain ⟨c0, c1, c2, c3, c4, c5⟩ := mcells (unhide R4s)
    go_wp2_with fail
    refine bodyPost_ret (v := .tuple #[.agg (mC zero6), .bool false]) (by simp [results, Try.results8, go_sem, c0, c1, c2, c3, c4, c5, mC]) rfl ⟨by rw [unhide hR], ?_⟩
    exact unhide HB2
  | true =>
    have hS := sceneOk_iff.1 hok
    replace hyes := hide (unhide hyes hok)
    clear hok hbad
    obtain ⟨b, o, hao⟩ : ∃ b o, n = 0 ∨ ao = some ⟨b, o, none⟩ := by
      rcases Nat.eq_zero_or_pos n with h0 | h0
      · exact ⟨0, 0, .inl h0⟩
      · obtain ⟨b, o, h, _⟩ := (unhide NN _ (Below.refl _ _) 0 h0).range
        exact ⟨b, o, .inr h⟩
    have c2 := row1 (unhide R2)
    have E3 := hide (unhide E2 id _ (unhide HB))
    obtain ⟨z0, hz0⟩ : ∃ z, Hid (firstN X id n = z) := ⟨_, rfl⟩
    rw [unhide hz0] at E3
    go_wp2_with fail
    go_fit (unhide E3)
    rintro r w2 ⟨rfl, hb⟩
    replace R2 := hide (row_next hb (unhide R2))
    replace R4 := hide (row_next hb (unhide R4))
    replace HB := hide (below_two (unhide HB) hb)
    replace l2 := hide (show w.heap.size ≤ b2 ∧ b2 + 1 < w2.heap.size from ⟨(unhide l2).1, Nat.lt_of_lt_of_le (unhide l2).2 hb.size⟩)
    clear hb c2 E3
    by_cases hz : z0 < 0
    · have hR := hide (unhide hnone (by rw [unhide hz0]; exact hz))
      clear hnone hyes hz0
      have HB2 := hide (below_setRow (unhide HB) (show w.heap.size ≤ b2 + 1 by have := unhide l2; omega) (mC zero6))
      have R4s := hide (mrow_set (C := mC zero6) (unhide R4))
      (try go_wp2_with (refine mat_put rfl _ _ rfl (b2 + 1) (mC zero6) zero6 rfl rfl (unhide R4) rfl ?_))
      generalize w2.setRow (b2 + 1) (mC zero6) = W2 at HB2 R4s ⊢
      obtain ⟨c0, c1, c2, c3, c4, c5⟩ := mcells (unhide R4s)
      go_wp2_with fail
      refine bodyPost_ret (v := .tuple #[.agg (mC zero6), .bool false]) (by simp [results, Try.results8, go_sem, c0, c1, c2, c3, c4, c5, mC]) rfl ⟨by rw [unhide hR], ?_⟩
      exact unhide HB2
    · have hf : ¬ firstN X id n < 0 := by rw [unhide hz0]; exact hz
      have hR := hide (unhide hyes (by omega)).symm
      obtain ⟨k, hk, hfk, hik⟩ := first_lt hf
      have hst := hide (show id = 0 ∨ ∃ j : Nat, j < n ∧ firstN X id n = (j : Int) from .inr ⟨k, hk, hfk⟩)
      rcases hao with h0 | hao
      · omega
      subst hao
      clear hnone hyes hz0 hf hfk hik
      replace hS := hide hS
      go_wp2_with fail
      go_fit (specStill_any _)
      rintro r w3 ⟨rfl, hb⟩
      replace R2 := hide (row_next hb (unhide R2))
      replace R4 := hide (row_next hb (unhide R4))
      replace HB := hide (below_two (unhide HB) hb)
      replace l2 := hide (show w.heap.size ≤ b2 ∧ b2 + 1 < w3.heap.size from ⟨(unhide l2).1, Nat.lt_of_lt_of_le (unhide l2).2 hb.size⟩)
      clear hb
      go_upto_region 4 with (refine mat_new rfl _ _ rfl _ still6 rfl rfl rfl ?_)
      have R6 := hide (new_row w3 (.cells (mC still6) 29))
      replace R2 := hide (row_next (al1_below w3 (.cells (mC still6) 29)) (unhide R2))
      replace R4 := hide (row_next (al1_below w3 (.cells (mC still6) 29)) (unhide R4))
      replace HB := hide (below_two (unhide HB) (al1_below w3 (.cells (mC still6) 29)))
      generalize w3.alloc (.cells (mC still6) 29) = W4 at R2 R4 R6 HB ⊢
      obtain ⟨b6, hb6⟩ : ∃ b, Hid (b = w3.heap.size) := ⟨_, rfl⟩
      rw [← unhide hb6] at R6 ⊢
      have l6 := hide (show w.heap.size ≤ b2 ∧ b2 + 1 < b6 by rw [unhide hb6]; exact unhide l2)
      clear hb6 l2
      go_upto_region 5 with fail
      go_loopw [7, 1] (fun i v u => ∃ (k f : Nat) (z : Int) (m : M6), k + f = 4 ∧ i = .int .i64 (k : Int) ∧ v = .int .i64 z ∧ Hid (upM X n f z m = R) ∧ Hid (z = 0 ∨ ∃ j : Nat, j < n ∧ firstN X z n = (j : Int)) ∧ Hid (u.heap[b2]? = some (.cells #[.slice (some ⟨b, o, none⟩) n cp] 26 (0, 0))) ∧ Hid (u.heap[b2 + 1]? = some (.cells (mC zero6) 29 (0, 0))) ∧ Hid (u.heap[b6]? = some (.cells (mC m) 29 (0, 0))) ∧ Hid (Below w.heap.size w u)) (fun i _ _ => 4 - (intOf i).toNat)
      case atStart => exact ⟨0, 4, id, still6, rfl, rfl, rfl, hR, hst, R2, R4, R6, HB⟩
      case round =>
        clear hR hst R2 R4 R6 HB
        obtain ⟨k, f, z, m, hkf, rfl, rfl, hR, hst, R2, R4, R6, HB⟩ := hrel
        by_cases hend : z = 0 ∨ f = 0
        · have hR' : Hid (R = (m, true)) := by
            rcases hend with h0 | h0
            · rw [← unhide hR, h0]; exact matM_z (unhide hS) f m
            · rw [← unhide hR, h0]; rfl
          have h6 := hide (mat_rng (unhide R6))
          have HB2 := hide (below_setRow (unhide HB) (show w.heap.size ≤ b2 + 1 by have := unhide l6; omega) (mC m))
          have R4s := hide (mrow_set (C := mC m) (unhide R4))
          by_cases h4 : f = 0
          · have hk4 : ¬ ((k : Int) < 4) := by omega
            clear hR hend hst
            (try go_wp2_with (first | with_reducible refine load_mat rfl _ rfl b6 0 rfl m (unhide h6) ?_ | refine mat_put rfl _ _ rfl (b2 + 1) (mC zero6) m rfl rfl (unhide R4) rfl ?_))
            generalize wr.setRow (b2 + 1) (mC m) = W2 at HB2 R4s ⊢
            obtain ⟨c0, c1, c2, c3, c4, c5⟩ := mcells (unhide R4s)
            go_wp2_with fail
            refine bodyPost_ret (v := .tuple #[.agg (mC m), .bool true]) (by simp [results, Try.results8, go_sem, c0, c1, c2, c3, c4, c5, mC]) rfl ⟨by rw [unhide hR'], ?_⟩
            exact unhide HB2
          · have hk4 : (k : Int) < 4 := by omega
            obtain rfl : z = 0 := hend.resolve_right h4
            clear hR hend hst
            (try go_wp2_with (first | with_reducible refine load_mat rfl _ rfl b6 0 rfl m (unhide h6) ?_ | refine mat_put rfl _ _ rfl (b2 + 1) (mC zero6) m rfl rfl (unhide R4) rfl ?_))
            generalize wr.setRow (b2 + 1) (mC m) = W2 at HB2 R4s ⊢
            obtain ⟨c0, c1, c2, c3, c4, c5⟩ := mcells (unhide R4s)
            go_wp2_with fail
            refine bodyPost_ret (v := .tuple #[.agg (mC m), .bool true]) (by simp [results, Try.results8, go_sem, c0, c1, c2, c3, c4, c5, mC]) rfl ⟨by rw [unhide hR'], ?_⟩
            exact unhide HB2
        · have hz0 : z ≠ 0 := fun e => hend (.inl e)
          obtain ⟨g, rfl⟩ : ∃ g, f = g + 1 := ⟨f - 1, by omega⟩
          obtain ⟨j, hj, hfj⟩ := (unhide hst).resolve_left hz0
          have hk4 : (k : Int) < 4 := by omega
          have hzb : (z != 0) = true := by simpa using hz0
          have hRy := hide (fun (hc : comp6k (X j).mat m = true) => (upM_yes hfj (f := g) hc).symm.trans (unhide hR))
          have hRn := hide (fun (hc : comp6k (X j).mat m = false) => (upM_no hfj (f := g) hc).symm.trans (unhide hR))
          have ENA := hide (fun u (hu : Below wr.heap.size wr u) => (unhide E2 z u (below_two (unhide HB) hu)).mono fun r w' h => show r = .returned (.int .i64 (j : Int)) ∧ Below u.heap.size u w' by rw [hfj] at h; exact h)
          have hnx := hide (show (X j).par = 0 ∨ ∃ i : Nat, i < n ∧ firstN X (X j).par n = (i : Int) by
            rcases above (unhide hS) hj with ⟨_, h⟩ | ⟨i, h1, h2, _⟩
            · exact .inl h
            · exact .inr ⟨i, h1, h2⟩)
          have hRX0 := hide (fun u (hu : Below wr.heap.size wr u) => show u.rangeAt b (o + j * 31) (ndC (X j) (A j)).toList by
            obtain ⟨b', o', e, h⟩ := (unhide NN u (below_two (unhide HB) hu) j hj).range
            cases e
            exact h)
          obtain ⟨xx, hxx⟩ : ∃ z, Hid (X j = z) := ⟨_, rfl⟩
          obtain ⟨ss, hss⟩ : ∃ z, Hid (A j = z) := ⟨_, rfl⟩
          rw [unhide hxx, unhide hss] at hRX0
          rw [unhide hxx] at hRy hRn hnx
          have hRX := hRX0
          have hj' : (j : Int) < (n : Int) := by omega
          have hS7 := hide (fun u (hu : Below wr.heap.size wr u) => show Hid (Below wr.heap.size wr u) ∧ u.cell? ⟨b2, 0, none⟩ = some (.slice (some ⟨b, o, none⟩) n cp) from ⟨hu, row1 (row_next hu (unhide R2))⟩)
          clear hR hst hend hfj hxx hss
          go_upto_region 7 with fail
          clear hzb hz0
          go_cut [8] (fun s u => ∃ q, s = .pointer (some ⟨q, 0, none⟩) ∧ Hid (wr.heap.size ≤ q) ∧ Hid (u.heap[q]? = some (.cells (ndC xx ss) 41 (0, 0))) ∧ Hid (Below wr.heap.size wr u))
          case first =>
            refine wp_region_held_drew (S := (fun u => Hid (Below wr.heap.size wr u) ∧ u.cell? ⟨b2, 0, none⟩ = some (.slice (some ⟨b, o, none⟩) n cp))) (by kernel_rfl) ?_ (fun hHeld => ?_)
            · exact unhide hS7 _ (Below.refl _ _).drew
            have HU := hide (show Below wr.heap.size wr wr.drew from (Below.refl _ _).drew)
            generalize wr.drew = V8 at HU hHeld ⊢
            refine wpAnyH_take (i := 0) (oi := { dst := some 30, op := Op.fieldAddr 26 (Operand.tmp 2) 0, type := 0, pos := "l17_shape.go:11", after := #[], guard := none }) (v := ?_) rfl (by kernel_rfl) (by kernel_rfl) (by kernel_rfl) (fun _ _ _ h => h) (Or.inl ⟨by rfl, ?_⟩) (by assumption) ?_
            rotate_left
            · intro w hSw; (try dsimp only at hSw); go_simp <;> with_reducible rfl
            try simp only [Act.put, List.setIfInBounds_toArray, List.set_cons_zero, List.set_cons_succ]
            refine wpAnyH_take (i := 1) (oi := { dst := some 31, op := Op.load 24 (Operand.tmp 30), type := 24, pos := "l17_shape.go:11", after := #[{ on := 0, ground := Ground.data }], guard := none }) (v := ?_) rfl (by kernel_rfl) (by kernel_rfl) (by kernel_rfl) (fun _ _ _ h => h) (Or.inl ⟨by rfl, ?_⟩) (by assumption) ?_
            rotate_left
            · intro w hSw; (try dsimp only at hSw); go_simp <;> with_reducible rfl
            try simp only [Act.put, List.setIfInBounds_toArray, List.set_cons_zero, List.set_cons_succ]
            refine wpAnyH_take (i := 2) (oi := { dst := some 32, op := Op.load 26 (Operand.tmp 2), type := 26, pos := "l17_shape.go:11", after := #[], guard := none }) (v := ?_) rfl (by kernel_rfl) (by kernel_rfl) (by kernel_rfl) (fun _ _ _ h => h) (Or.inl ⟨by rfl, ?_⟩) (by assumption) ?_
            rotate_left
            · intro w hSw; (try dsimp only at hSw); go_simp <;> with_reducible rfl
            try simp only [Act.put, List.setIfInBounds_toArray, List.set_cons_zero, List.set_cons_succ]
            refine wpAnyH_take (i := 3) (oi := { dst := some 33, op := Op.move (Operand.tmp 1), type := 3, pos := "l17_shape.go:11", after := #[], guard := none }) (v := ?_) rfl (by kernel_rfl) (by kernel_rfl) (by kernel_rfl) (fun _ _ _ h => h) (Or.inl ⟨by rfl, ?_⟩) (by assumption) ?_
            rotate_left
            · intro w hSw; (try dsimp only at hSw); go_simp <;> with_reducible rfl
            try simp only [Act.put, List.setIfInBounds_toArray, List.set_cons_zero, List.set_cons_succ]
            refine wpAnyH_ready (rs := [4, 7]) (by kernel_rfl) (by simp) ?_
            refine AllReadyH.cons (o := { dst := some 34, op := Op.call { callee := Callee.value (Operand.func 11), args := #[Operand.tmp 32, Operand.tmp 33], argTypes := #[26, 3] }, type := 3, pos := "l17_shape.go:11", after := #[{ on := 2, ground := Ground.data }, { on := 3, ground := Ground.data }], guard := none }) rfl (fun K hK => ?_) ?_
            · go_simp
              (go_at_call 11; go_fit (unhide ENA _ (unhide HU)); rintro r VA ⟨rfl, hb9⟩)
              replace HU := hide (below_two (unhide HU) hb9)
              clear hb9
              refine hK.out _ _ ?_ (fun hHeld => ?_)
              · exact unhide hS7 _ (unhide HU)
              clear hK K
              try simp only [Act.put, List.setIfInBounds_toArray, List.set_cons_zero, List.set_cons_succ]
              refine wpAnyH_take (i := 5) (oi := { dst := some 35, op := Op.indexAddr 24 (Operand.tmp 31) (Operand.tmp 34), type := 0, pos := "l17_shape.go:11", after := #[{ on := 1, ground := Ground.data }, { on := 4, ground := Ground.data }], guard := none }) (v := ?_) rfl (by kernel_rfl) (by kernel_rfl) (by kernel_rfl) (fun _ _ _ h => h) (Or.inl ⟨by rfl, ?_⟩) (by assumption) ?_
              rotate_left
              · intro w hSw; (try dsimp only at hSw); go_simp <;> with_reducible rfl
              try simp only [Act.put, List.setIfInBounds_toArray, List.set_cons_zero, List.set_cons_succ]
              refine wpAnyH_take (i := 6) (oi := { dst := some 36, op := Op.load 41 (Operand.tmp 35), type := 41, pos := "l17_shape.go:11", after := #[{ on := 5, ground := Ground.data }], guard := none }) (v := .agg (ndC xx ss)) rfl (by kernel_rfl) (by kernel_rfl) (by kernel_rfl) (fun _ _ _ h => h) (yields_inode rfl _ rfl b (o + j * 31) rfl xx ss (fun u hu => unhide hRX u (unhide hu.1))) (by assumption) ?_
              try simp only [Act.put, List.setIfInBounds_toArray, List.set_cons_zero, List.set_cons_succ]
              refine wpAnyH_ready (rs := [7]) (by kernel_rfl) (by simp) ?_
              refine AllReadyH.cons (o := { dst := some 8, op := Op.alloc 41, type := 0, pos := "l17_shape.go:11", after := #[], guard := none }) rfl (fun K hK => ?_) AllReadyH.nil
              refine step_alloc_node rfl rfl (fun Z hZ => ?_)
              have R8 := hide (new_row VA (.cells Z 41))
              have l8 := hide (show wr.heap.size ≤ VA.heap.size from (unhide HU).size)
              replace HU := hide (below_two (unhide HU) (al1_below VA (.cells Z 41)))
              generalize VA.alloc (.cells Z 41) = VB at HU R8 ⊢
              generalize VA.heap.size = b8 at R8 l8 ⊢
              refine hK.out _ _ ?_ (fun hHeld => ?_)
              · exact unhide hS7 _ (unhide HU)
              clear hK K
              try simp only [Act.put, List.setIfInBounds_toArray, List.set_cons_zero, List.set_cons_succ]
              refine wpAnyH_ready (rs := [8]) (by kernel_rfl) (by simp) ?_
              refine AllReadyH.cons (o := { dst := none, op := Op.store 41 (Operand.tmp 8) (Operand.tmp 36), type := 0, pos := "l17_shape.go:11", after := #[{ on := 7, ground := Ground.data }, { on := 6, ground := Ground.data }, { on := 4, ground := Ground.chain }, { on := 0, ground := Ground.phase }, { on := 1, ground := Ground.phase }, { on := 2, ground := Ground.phase }, { on := 3, ground := Ground.phase }, { on := 4, ground := Ground.phase }, { on := 5, ground := Ground.phase }, { on := 6, ground := Ground.phase }, { on := 7, ground := Ground.phase }], guard := none }) rfl (fun K hK => ?_) AllReadyH.nil
              refine step_store_node rfl _ _ rfl rfl rfl (unhide R8) hZ ?_
              replace R8 := hide (mrow_set (C := ndC xx ss) (unhide R8))
              replace HU := hide (below_setRow (unhide HU) (unhide l8) (ndC xx ss))
              generalize VB.setRow b8 (ndC xx ss) = WL at R8 HU ⊢
              refine hK.out _ _ ?_ (fun hHeld => ?_)
              · exact unhide hS7 _ (unhide HU)
              clear hK K
              try simp only [Act.put]
              refine wpAnyH_done (by kernel_rfl) ?_ _
              go_wp2_with fail
              go_meet
              exact ⟨b8, rfl, l8, R8, HU⟩
            refine AllReadyH.cons (o := { dst := some 8, op := Op.alloc 41, type := 0, pos := "l17_shape.go:11", after := #[], guard := none }) rfl (fun K hK => ?_) ?_
            · refine step_alloc_node rfl rfl (fun Z hZ => ?_)
              have R8 := hide (new_row V8 (.cells Z 41))
              have l8 := hide (show wr.heap.size ≤ V8.heap.size from (unhide HU).size)
              replace HU := hide (below_two (unhide HU) (al1_below V8 (.cells Z 41)))
              generalize V8.alloc (.cells Z 41) = VA at HU R8 ⊢
              generalize V8.heap.size = b8 at R8 l8 ⊢
              refine hK.out _ _ ?_ (fun hHeld => ?_)
              · exact unhide hS7 _ (unhide HU)
              clear hK K
              try simp only [Act.put, List.setIfInBounds_toArray, List.set_cons_zero, List.set_cons_succ]
              refine wpAnyH_ready (rs := [4]) (by kernel_rfl) (by simp) ?_
              refine AllReadyH.cons (o := { dst := some 34, op := Op.call { callee := Callee.value (Operand.func 11), args := #[Operand.tmp 32, Operand.tmp 33], argTypes := #[26, 3] }, type := 3, pos := "l17_shape.go:11", after := #[{ on := 2, ground := Ground.data }, { on := 3, ground := Ground.data }], guard := none }) rfl (fun K hK => ?_) AllReadyH.nil
              go_simp
              (go_at_call 11; go_fit (unhide ENA _ (unhide HU)); rintro r VB ⟨rfl, hb9⟩)
              replace R8 := hide (row_next hb9 (unhide R8))
              replace HU := hide (below_two (unhide HU) hb9)
              clear hb9
              refine hK.out _ _ ?_ (fun hHeld => ?_)
              · exact unhide hS7 _ (unhide HU)
              clear hK K
              try simp only [Act.put, List.setIfInBounds_toArray, List.set_cons_zero, List.set_cons_succ]
              refine wpAnyH_take (i := 5) (oi := { dst := some 35, op := Op.indexAddr 24 (Operand.tmp 31) (Operand.tmp 34), type := 0, pos := "l17_shape.go:11", after := #[{ on := 1, ground := Ground.data }, { on := 4, ground := Ground.data }], guard := none }) (v := ?_) rfl (by kernel_rfl) (by kernel_rfl) (by kernel_rfl) (fun _ _ _ h => h) (Or.inl ⟨by rfl, ?_⟩) (by assumption) ?_
              rotate_left
              · intro w hSw; (try dsimp only at hSw); go_simp <;> with_reducible rfl
              try simp only [Act.put, List.setIfInBounds_toArray, List.set_cons_zero, List.set_cons_succ]
              refine wpAnyH_take (i := 6) (oi := { dst := some 36, op := Op.load 41 (Operand.tmp 35), type := 41, pos := "l17_shape.go:11", after := #[{ on := 5, ground := Ground.data }], guard := none }) (v := .agg (ndC xx ss)) rfl (by kernel_rfl) (by kernel_rfl) (by kernel_rfl) (fun _ _ _ h => h) (yields_inode rfl _ rfl b (o + j * 31) rfl xx ss (fun u hu => unhide hRX u (unhide hu.1))) (by assumption) ?_
              try simp only [Act.put, List.setIfInBounds_toArray, List.set_cons_zero, List.set_cons_succ]
              refine wpAnyH_ready (rs := [8]) (by kernel_rfl) (by simp) ?_
              refine AllReadyH.cons (o := { dst := none, op := Op.store 41 (Operand.tmp 8) (Operand.tmp 36), type := 0, pos := "l17_shape.go:11", after := #[{ on := 7, ground := Ground.data }, { on := 6, ground := Ground.data }, { on := 4, ground := Ground.chain }, { on := 0, ground := Ground.phase }, { on := 1, ground := Ground.phase }, { on := 2, ground := Ground.phase }, { on := 3, ground := Ground.phase }, { on := 4, ground := Ground.phase }, { on := 5, ground := Ground.phase }, { on := 6, ground := Ground.phase }, { on := 7, ground := Ground.phase }], guard := none }) rfl (fun K hK => ?_) AllReadyH.nil
              refine step_store_node rfl _ _ rfl rfl rfl (unhide R8) hZ ?_
              replace R8 := hide (mrow_set (C := ndC xx ss) (unhide R8))
              replace HU := hide (below_setRow (unhide HU) (unhide l8) (ndC xx ss))
              generalize VB.setRow b8 (ndC xx ss) = WL at R8 HU ⊢
              refine hK.out _ _ ?_ (fun hHeld => ?_)
              · exact unhide hS7 _ (unhide HU)
              clear hK K
              try simp only [Act.put]
              refine wpAnyH_done (by kernel_rfl) ?_ _
              go_wp2_with fail
              go_meet
              exact ⟨b8, rfl, l8, R8, HU⟩
            exact AllReadyH.nil
          case rest =>
          obtain ⟨b8, rfl, l8, R8, HU⟩ := hcut
          replace R2 := hide (row_next (unhide HU) (unhide R2))
          replace R4 := hide (row_next (unhide HU) (unhide R4))
          replace l8 := hide (show b6 < b8 from Nat.lt_of_lt_of_le (heap_lt (unhide R6)) (unhide l8))
          replace R6 := hide (row_next (unhide HU) (unhide R6))
          replace HB := hide (below_two (unhide HB) (unhide HU))
          clear HU hRX hS7 ENA hRX0
          obtain ⟨M, hM⟩ : ∃ z, Hid (xx.mat = z) := ⟨_, rfl⟩
          rw [unhide hM] at hRy hRn
          have h8 := hide (show wc.rangeAt b8 3 (mC M).toList by
            rw [← unhide hM]
            have h := nd_mat (o := 0) (nd_rng (unhide R8))
            exact h)
          have h6 := hide (mat_rng (unhide R6))
          go_wp2_with (first | with_reducible refine load_mat rfl _ rfl b8 3 rfl M (unhide h8) ?_ | with_reducible refine load_mat rfl _ rfl b6 0 rfl m (unhide h6) ?_)
          go_fit (specCompose_m M m _)
          rintro r w5 ⟨rfl, hb⟩
          replace R2 := hide (row_next hb (unhide R2))
          replace R4 := hide (row_next hb (unhide R4))
          replace R6 := hide (row_next hb (unhide R6))
          replace R8 := hide (row_next hb (unhide R8))
          replace HB := hide (below_two (unhide HB) hb)
          clear hb h8 h6
          go_upto_region 9 with (refine mat_new rfl _ _ rfl _ (comp6 M m) rfl rfl rfl ?_)
          have R9 := hide (new_row w5 (.cells (mC (comp6 M m)) 29))
          have hb := al1_below w5 (.cells (mC (comp6 M m)) 29)
          replace R2 := hide (row_next hb (unhide R2))
          replace R4 := hide (row_next hb (unhide R4))
          replace R6 := hide (row_next hb (unhide R6))
          replace R8 := hide (row_next hb (unhide R8))
          replace HB := hide (below_two (unhide HB) hb)
          clear hb
          generalize w5.alloc (.cells (mC (comp6 M m)) 29) = W5 at R2 R4 R6 R8 R9 HB ⊢
          generalize w5.heap.size = b9 at R9 ⊢
          cases hc : comp6k M m with
          | false =>
            have hR := hide (unhide hRn hc).symm
            clear hRn hRy hc
            have HB2 := hide (below_setRow (unhide HB) (show w.heap.size ≤ b2 + 1 by have := unhide l6; omega) (mC zero6))
            have R4s := hide (mrow_set (C := mC zero6) (unhide R4))
            (try go_wp2_with (refine mat_put rfl _ _ rfl (b2 + 1) (mC zero6) zero6 rfl rfl (unhide R4) rfl ?_))
            generalize W5.setRow (b2 + 1) (mC zero6) = W2 at HB2 R4s ⊢
            obtain ⟨c0, c1, c2, c3, c4, c5⟩ := mcells (unhide R4s)
            go_wp2_with fail
            refine bodyPost_ret (v := .tuple #[.agg (mC zero6), .bool false]) (by simp [results, Try.results8, go_sem, c0, c1, c2, c3, c4, c5, mC]) rfl ⟨by rw [unhide hR], ?_⟩
            exact unhide HB2
          | true =>
            have hR := hide (unhide hRy hc)
            clear hRn hRy hc
            have h9 := hide (mat_rng (unhide R9))
            have HB2 := hide (below_setRow (unhide HB) (show w.heap.size ≤ b6 by have := unhide l6; omega) (mC (comp6 M m)))
            have R6s := hide (mrow_set (C := mC (comp6 M m)) (unhide R6))
            have R2s := hide ((mrow_other (C := mC (comp6 M m)) (u := W5) (show b2 ≠ b6 by have := unhide l6; omega)).trans (unhide R2))
            have R4s := hide ((mrow_other (C := mC (comp6 M m)) (u := W5) (show b2 + 1 ≠ b6 by have := unhide l6; omega)).trans (unhide R4))
            have R8s := hide ((mrow_other (C := mC (comp6 M m)) (u := W5) (show b8 ≠ b6 by have := unhide l8; omega)).trans (unhide R8))
            go_upto_region 12 with (first | with_reducible refine load_mat rfl _ rfl b9 0 rfl (comp6 M m) (unhide h9) ?_ | refine mat_put rfl _ _ rfl b6 (mC m) (comp6 M m) rfl rfl (unhide R6) rfl ?_)
            clear h9 R2 R4 R6 R8 R9 HB
            generalize W5.setRow b6 (mC (comp6 M m)) = W7 at HB2 R6s R2s R4s R8s ⊢
            have cp8 := (nd_heads (unhide R8s)).2
            go_wp2_with fail
            go_roundw
            case rel => exact ⟨k + 1, g, xx.par, _, by omega, by go_num, rfl, hR, hnx, R2s, R4s, R6s, HB2⟩
            case measure => simp [intOf]; omega
end Go.Proofs.Ytdbphpekhmlmdaa

/-
  The laws' own words on scenes: measured, handed over, held against each other.
-/
namespace Go.Proofs.Ytdbphpekhmlmdaa
open Go.RowKit
set_option linter.unusedVariables false

/-- Several cells of a list set, from o on. -/
def setL (xs : List Value) : Nat → List Value → List Value
  | _, [] => xs
  | o, v :: r => setL (xs.set o v) (o + 1) r
theorem setL_len : ∀ (l : List Value) (xs : List Value) (o : Nat), (setL xs o l).length = xs.length
  | [], _, _ => rfl
  | v :: r, xs, o => by unfold setL; rw [setL_len r]; simp
theorem setL_out : ∀ (l : List Value) (xs : List Value) (o q : Nat), q < o ∨ o + l.length ≤ q → (setL xs o l)[q]? = xs[q]?
  | [], _, _, _, _ => rfl
  | v :: r, xs, o, q, h => by
    unfold setL
    rw [setL_out r _ (o + 1) q (by simp at h; omega), List.getElem?_set_ne (by simp at h; omega)]
theorem setL_in : ∀ (l : List Value) (xs : List Value) (o m : Nat), o + l.length ≤ xs.length → m < l.length → (setL xs o l)[o + m]? = l[m]?
  | [], _, _, m, _, h => absurd h (by simp)
  | v :: r, xs, o, 0, h, _ => by
    unfold setL
    simp at h
    rw [setL_out r _ (o + 1) (o + 0) (.inl (by omega))]
    simp [List.getElem?_set]; omega
  | v :: r, xs, o, m + 1, h, hm => by
    unfold setL
    simp at h hm
    rw [show o + (m + 1) = o + 1 + m by omega, setL_in r _ (o + 1) m (by simp; omega) hm]
    simp
theorem own_setMany {base t s g n cap : Nat} : ∀ (l : List Value) {w : World} {o : Nat} {xs : List Value} (_ : w.ownsRow base t s (.slice (some ⟨g, 0, none⟩) n cap) n xs), (w.setCells g o l).ownsRow base t s (.slice (some ⟨g, 0, none⟩) n cap) n (setL xs o l)
  | [], _, _, _, h => h
  | v :: r, _, _, _, h => own_setMany r (h.stored _ _).1

/-- The first k nodes of a row. -/
def NsAt (ys : List Value) (X : Nat → Nd) (A : Nat → Na) (k : Nat) : Prop := ∀ j, j < k → ∀ m v, (ndC (X j) (A j))[m]? = some v → ys[j * 31 + m]? = some v
def upd {α : Type} (f : Nat → α) (k : Nat) (v : α) : Nat → α := fun j => if j = k then v else f j
theorem upd_at {α : Type} (f : Nat → α) (k : Nat) (v : α) : upd f k v k = v := if_pos rfl
theorem upd_ne {α : Type} (f : Nat → α) {k j : Nat} (v : α) (h : j ≠ k) : upd f k v j = f j := if_neg h
theorem NsAt.step {ys : List Value} {X : Nat → Nd} {A : Nat → Na} {k : Nat} (h : NsAt ys X A k) (s : Na) (hl : k * 31 + 31 ≤ ys.length) : NsAt (setL ys (k * 31) (ndC (X k) s).toList) X (upd A k s) (k + 1) := by
  have hz : (ndC (X k) s).toList.length = 31 := rfl
  intro j hj m v hv
  by_cases e : j = k
  · subst e
    rw [upd_at] at hv
    have hm : m < 31 := by
      have := (Array.getElem?_eq_some_iff.1 hv).1
      rwa [ndC_size] at this
    rw [setL_in _ _ _ _ (by rw [hz]; exact hl) (by rw [hz]; exact hm), Array.getElem?_toList]
    exact hv
  · rw [upd_ne _ _ e] at hv
    have hm : m < 31 := by
      have := (Array.getElem?_eq_some_iff.1 hv).1
      rwa [ndC_size] at this
    rw [setL_out _ _ _ _ (.inl (by omega))]
    exact h j (by omega) m v hv
/-- The lists of the first k nodes are one's own, each in a block of its own, behind the row. -/
structure ScN (u : World) (b k : Nat) (X : Nat → Nd) (A : Nat → Na) (K : Nat → Nat → Nat) (lo : Nat → Nat) : Prop where
  own : ∀ j, j < k → NdO u (b + 1) (K j) (X j) (A j)
  five : ∀ j, j < k → Five (K j) (lo j) (lo (j + 1))
  first : b < lo 0
  top : lo k ≤ u.heap.size
theorem ScN.next {u u' : World} {b k : Nat} {X : Nat → Nd} {A : Nat → Na} {K : Nat → Nat → Nat} {lo : Nat → Nat} (h : ScN u b k X A K lo) (hb : Below u.heap.size u u') : ScN u' b k X A K lo :=
  ⟨fun j hj => (h.own j hj).next hb, h.five, h.first, Nat.le_trans h.top hb.size⟩
theorem NdO.sets {w : World} {base b o : Nat} {K : Nat → Nat} {x : Nd} {s : Na} (h : NdO w base K x s) (hb : b < base) (l : List Value) : NdO (w.setCells b o l) base K x s :=
  let ⟨xs, a1, a2⟩ := h.v; let ⟨ys, b1, b2⟩ := h.p; let ⟨zs, c1, c2⟩ := h.d; let ⟨us, d1, d2⟩ := h.cv; let ⟨vs, e1, e2⟩ := h.cp
  ⟨⟨xs, own_sets hb l a1, a2⟩, ⟨ys, own_sets hb l b1, b2⟩, ⟨zs, own_sets hb l c1, c2⟩, ⟨us, own_sets hb l d1, d2⟩, ⟨vs, own_sets hb l e1, e2⟩, h.kv, h.kp, h.kd, h.kcv, h.kcp⟩
theorem ScN.sets {u : World} {b k : Nat} {X : Nat → Nd} {A : Nat → Na} {K : Nat → Nat → Nat} {lo : Nat → Nat} (h : ScN u b k X A K lo) (o : Nat) (l : List Value) : ScN (u.setCells b o l) b k X A K lo :=
  ⟨fun j hj => (h.own j hj).sets (Nat.lt_succ_self _) l, h.five, h.first, by rw [sets_size]; exact h.top⟩
theorem NdO.low {w : World} {base base' : Nat} {K : Nat → Nat} {x : Nd} {s : Na} (h : NdO w base K x s) (hb : base' ≤ base) : NdO w base' K x s :=
  let ⟨xs, a1, a2⟩ := h.v; let ⟨ys, b1, b2⟩ := h.p; let ⟨zs, c1, c2⟩ := h.d; let ⟨us, d1, d2⟩ := h.cv; let ⟨vs, e1, e2⟩ := h.cp
  ⟨⟨xs, own_low a1 hb, a2⟩, ⟨ys, own_low b1 hb, b2⟩, ⟨zs, own_low c1 hb, c2⟩, ⟨us, own_low d1 hb, d2⟩, ⟨vs, own_low e1 hb, e2⟩, h.kv, h.kp, h.kd, h.kcv, h.kcp⟩
theorem ScN.step {u u1 : World} {b k : Nat} {X : Nat → Nd} {A : Nat → Na} {K : Nat → Nat → Nat} {lo : Nat → Nat} (h : ScN u b k X A K lo) (hbu : b < u.heap.size) (hb : Below u.heap.size u u1) {s : Na} {Kn : Nat → Nat} (hn : NdO u1 u.heap.size Kn (X k) s) (h5 : Five Kn u.heap.size u1.heap.size) :
    ScN u1 b (k + 1) X (upd A k s) (upd K k Kn) (upd lo (k + 1) u1.heap.size) := by
  refine ⟨fun j hj => ?_, fun j hj => ?_, ?_, ?_⟩
  · by_cases e : j = k
    · subst e; rw [upd_at, upd_at]; exact hn.low hbu
    · rw [upd_ne _ _ e, upd_ne _ _ e]; exact (h.own j (by omega)).next hb
  · by_cases e : j = k
    · subst e
      rw [upd_at, upd_at, upd_ne _ _ (by omega)]
      exact ⟨fun i hi => ⟨Nat.le_trans h.top (h5.low i hi).1, (h5.low i hi).2⟩, h5.inj⟩
    · rw [upd_ne _ _ e, upd_ne _ _ (by omega), upd_ne _ _ (by omega)]; exact h.five j (by omega)
  · rw [upd_ne _ _ (by omega)]; exact h.first
  · rw [upd_at]; exact Nat.le_refl _
/-- A scene's list of nodes that is one's own, with all its lists. -/
def ScV (w : World) (base : Nat) (a : Option Addr) (n c : Nat) (X : Nat → Nd) (A : Nat → Na) : Prop :=
  ∃ b ys K lo, a = some ⟨b, 0, none⟩ ∧ base ≤ b ∧ w.ownsRow base 41 31 (.slice a n c) n ys ∧ NsAt ys X A n ∧ ScN w b n X A K lo
theorem ScV.next {w u : World} {base n c : Nat} {a : Option Addr} {X : Nat → Nd} {A : Nat → Na} (h : ScV w base a n c X A) (hb : Below w.heap.size w u) : ScV u base a n c X A :=
  let ⟨b, ys, K, lo, h1, h2, h3, h4, h5⟩ := h; ⟨b, ys, K, lo, h1, h2, own_below h3 hb, h4, h5.next hb⟩
theorem ScV.nodes {w : World} {base n c : Nat} {a : Option Addr} {X : Nat → Nd} {A : Nat → Na} (h : ScV w base a n c X A) : ∀ i, i < n → NrAt w a i (X i) (A i) := by
  obtain ⟨b, ys, K, lo, rfl, h2, h3, h4, h5⟩ := h
  intro i hi
  refine ⟨b, 0, rfl, fun j v hv => ?_, (h5.own i hi).inn⟩
  have hj : j < 31 := by
    have := (Array.getElem?_eq_some_iff.1 hv).1
    exact this
  rw [Nat.zero_add, h3.cellAt _ (by omega)]
  exact h4 i hi j v hv
theorem ScV.low {w : World} {base base' n c : Nat} {a : Option Addr} {X : Nat → Nd} {A : Nat → Na} (h : ScV w base a n c X A) (hb : base' ≤ base) : ScV w base' a n c X A :=
  let ⟨b, ys, K, lo, h1, h2, h3, h4, h5⟩ := h; ⟨b, ys, K, lo, h1, Nat.le_trans hb h2, own_low h3 hb, h4, h5⟩

def sumT (X : Nat → Nd) : Nat → Nat
  | 0 => 0
  | k + 1 => sumT X k + (X k).tot
theorem sumT_le (X : Nat → Nd) {i : Nat} : ∀ {n : Nat}, i < n → (X i).tot + sumT X i ≤ sumT X n
  | 0, h => absurd h (by omega)
  | n + 1, h => by
    by_cases e : i = n
    · subst e; show (X i).tot + sumT X i ≤ sumT X i + (X i).tot; omega
    · have := sumT_le X (i := i) (n := n) (by omega); show _ ≤ sumT X n + (X n).tot; omega
theorem sumT_mono (X : Nat → Nd) {i : Nat} : ∀ {n : Nat}, i ≤ n → sumT X i ≤ sumT X n
  | 0, h => by obtain rfl : i = 0 := by omega
               exact Nat.le_refl _
  | n + 1, h => by
    by_cases e : i = n + 1
    · subst e; exact Nat.le_refl _
    · have := sumT_mono X (i := i) (n := n) (by omega); show _ ≤ sumT X n + (X n).tot; omega
/-- How much a scene takes. -/
def scT (X : Nat → Nd) (n : Nat) : Nat := n + sumT X n
theorem lnode_size : (Try.prog.info? 94).map (·.size) = some 31 := by kernel_rfl
theorem load_lnode {ops : Array Oper} {rest : List Oper} {op : Oper} {a : Act} {w : World} {Q : Exit → Act → World → Prop} (hgd : op.guard = none) (y : Operand) (ho : op.op = .load 94 y)
    (b o : Nat) (hx : a.eval y = .pointer (some ⟨b, o, none⟩)) (x : Nd) (s : Na) (hc : w.rangeAt b o (ndC x s).toList)
    (h : wpList Try.prog ops Q rest (a.put op.dst (.agg (ndC x s))) w) : wpList Try.prog ops Q (op :: rest) a w :=
  wpList_load_mid hgd 94 y ho b o hx (ndC x s).toList _ hc Try.underlying94 rfl (by rw [Array.length_toList, ndC_size]; exact lnode_size) (by rw [Array.toArray_toList]; exact h)

set_option maxHeartbeats 4000000 in
set_option maxRecDepth 100000 in
theorem szNodeS_any (X : Nat → Nd) (A : Nat → Na) (ao : Option Addr) (n cp : Nat) (hm : n ≤ maxLen) (hf : ∀ i, i < n → (X i).Fit) (w : World) (P : ∀ i, i < n → NrAt w ao i (X i) (A i)) :
    Calls Try.prog 30 #[.slice ao n cp, .int .i64 1048576] w fun r w' => r = .returned (.int .i64 (if 1048576 < scT X n then -1 else 1048576 - (scT X n : Int))) ∧ Below w.heap.size w w' := by
  have hw : IntKind.i64.wrap (1048576 - (n : Int)) = 1048576 - n := IntWalk.i64_in _ (by unfold maxLen at hm; omega)
  obtain ⟨V, hV⟩ : ∃ V, Hid ((if 1048576 < scT X n then -1 else 1048576 - (scT X n : Int)) = V) := ⟨_, rfl⟩
  rw [unhide hV]
  replace P := hide P
  replace hf := hide hf
  by_cases hn : n ≤ 1048576
  rotate_left
  · have hneg : 1048576 - (n : Int) < 0 := by omega
    have hq := hide (show V = -1 by rw [← unhide hV, if_pos (by unfold scT; omega)])
    go_enter Try.func30, Try.ntmps30
    go_wp2_with fail
    go_ret
    exact ⟨by rw [unhide hq]; rfl, Below.refl _ _⟩
  have hneg : ¬ 1048576 - (n : Int) < 0 := by omega
  go_enter Try.func30, Try.ntmps30
  go_upto_region 5 with fail
  go_loopw [1, 5] (fun l i u => ∃ k : Nat, k ≤ n ∧ i = .int .i64 (k : Int) ∧ l = .int .i64 (1048576 - (n : Int) - (sumT X k : Int)) ∧ Hid (0 ≤ 1048576 - (n : Int) - (sumT X k : Int)) ∧ Hid (Below w.heap.size w u)) (fun _ i _ => n - (intOf i).toNat)
  case atStart => exact ⟨0, Nat.zero_le _, rfl, by show _ = Value.int .i64 (1048576 - (n : Int) - ((0 : Nat) : Int)); congr 1; omega, by unfold Hid sumT; omega, Below.refl _ _⟩
  case round =>
    obtain ⟨k, hk, rfl, rfl, H0, HB⟩ := hrel
    by_cases hkn : k < n
    · have hki : (k : Int) < (n : Int) := by omega
      have HP := hide ((unhide P k hkn).next (unhide HB))
      obtain ⟨b, o, hao, hrg⟩ := (unhide HP).range
      replace hrg := hide hrg
      subst hao
      obtain ⟨z, hz⟩ : ∃ z, Hid (1048576 - (n : Int) - (sumT X k : Int) = z) := ⟨_, rfl⟩
      rw [unhide hz] at H0 ⊢
      have E := hide (szNode_any (X k) (A k) (unhide hf k hkn) z ⟨unhide H0, by have := unhide hz; omega⟩)
      go_wp2_with (refine load_lnode rfl _ rfl b (o + k * 31) rfl (X k) (A k) (unhide hrg) ?_)
      go_fit (unhide E _)
      rintro r u1 ⟨rfl, hb⟩
      replace HB := hide (below_two (unhide HB) hb)
      clear hb hrg HP E
      by_cases ht : z < ((X k).tot : Int)
      · rw [if_pos ht]
        have hq := hide (show V = -1 by
          have h1 := sumT_le X hkn
          have h2 := unhide hz
          rw [← unhide hV, if_pos (by unfold scT; omega)])
        go_wp2_with fail
        go_ret
        exact ⟨by rw [unhide hq]; rfl, unhide HB⟩
      · rw [if_neg ht]
        have hge : ¬ z - ((X k).tot : Int) < 0 := by omega
        have hnx := hide (show z - ((X k).tot : Int) = 1048576 - (n : Int) - (sumT X (k + 1) : Int) by
          have h2 := unhide hz
          show _ = 1048576 - (n : Int) - ((sumT X k + (X k).tot : Nat) : Int)
          omega)
        go_wp2_with fail
        go_roundw
        case rel => exact ⟨k + 1, by omega, by go_num, by rw [unhide hnx], by unfold Hid; rw [← unhide hnx]; omega, HB⟩
        case measure => simp [intOf]; omega
    · have hke : k = n := by omega
      subst hke
      have hki : ¬ (k : Int) < (k : Int) := by omega
      have hq := hide (show 1048576 - (k : Int) - (sumT X k : Int) = V by
        have := unhide H0
        rw [← unhide hV, if_neg (by unfold scT; omega)]
        unfold scT
        omega)
      rw [unhide hq]
      go_wp2_with fail
      go_ret
      exact ⟨rfl, unhide HB⟩
end Go.Proofs.Ytdbphpekhmlmdaa

/-
  The laws' toScene: a scene of one's own; scenes held against each other.
-/
namespace Go.Proofs.Ytdbphpekhmlmdaa
open Go.RowKit
set_option linter.unusedVariables false

/-- A whole node into the middle of a row. -/
theorem store_node {ops : Array Oper} {rest : List Oper} {op : Oper} {a : Act} {w : World} {Q : Exit → Act → World → Prop} (hgd : op.guard = none) (y z : Operand) (ho : op.op = .store 41 y z)
    (b o : Nat) (x : Nd) (s : Na) (hx : a.eval y = .pointer (some ⟨b, o, none⟩)) (hy : a.eval z = .agg (ndC x s)) (ht : w.there b o 31)
    (h : wpList Try.prog ops Q rest (a.put op.dst undef) (w.setCells b o (ndC x s).toList)) : wpList Try.prog ops Q (op :: rest) a w :=
  wpList_store_mid hgd 41 y z ho b o (ndC x s) hx hy (by rw [ndC_size]; exact ht) (ndC_info x s) (ndC_one x s) h
theorem own_there {w : World} {base t g n cap k : Nat} {xs : List Value} (h : w.ownsRow base t 31 (.slice (some ⟨g, 0, none⟩) n cap) n xs) (hk : k < n) : w.there g (k * 31) 31 := fun j hj => by
  have hl := h.1
  refine ⟨?_, h.frozenAt _⟩
  rw [h.cellAt _ (by omega), List.getElem?_eq_getElem (by omega)]
  rfl

set_option maxHeartbeats 4000000 in
set_option maxRecDepth 100000 in
theorem toNodeS_own (X : Nat → Nd) (A : Nat → Na) (ao : Option Addr) (n cp : Nat) (hn : n ≤ 1048576) (hs : ∀ i, i < n → (X i).Small) (w : World) (P : ∀ i, i < n → NrAt w ao i (X i) (A i)) :
    Calls Try.prog 31 #[.slice ao n cp] w fun r w' => r = .returned (.slice (some ⟨w.heap.size, 0, none⟩) n n) ∧ (∃ A', ScV w' w.heap.size (some ⟨w.heap.size, 0, none⟩) n n X A') ∧ Below w.heap.size w w' := by
  obtain ⟨i0, hi, hz0, hz1, hz2⟩ := info_parts infoNode
  replace P := hide P
  replace hs := hide hs
  go_enter Try.func31, Try.ntmps31
  go_wp2_with (at_make; go_must (refine wpList_make_full w rfl _ _ 24 rfl w.heap.size 41 i0 (.agg ndZ) 31 Try.underlying24 hi hz0 hz1 .i64 .i64 _ _ n (by rfl) (by rfl) (by omega) (by omega) (by rw [hz2]; omega) (by unfold maxLen; omega) (Nat.le_refl _) ?_); intro w1 hown1 hg1)
  have B1 : Below w.heap.size w w1 := (Below.refl _ w).grown hg1 (Nat.le_refl _) (by simp)
  clear hg1
  obtain ⟨b, hb0⟩ : ∃ b, Hid (b = w.heap.size) := ⟨_, rfl⟩
  have hbl := hide (show w.heap.size ≤ b by rw [unhide hb0]; exact Nat.le_refl _)
  rw [← unhide hb0] at hown1 ⊢
  have hsz := hide (show b < w1.heap.size from (hown1.lt b rfl).2)
  rw [unhide hb0] at hown1
  rw [← unhide hb0] at hown1
  go_loopw [4] (fun i u => ∃ (k : Nat) (xs : List Value) (A' : Nat → Na) (K : Nat → Nat → Nat) (lo : Nat → Nat), k ≤ n ∧ i = .int .i64 k ∧ Hid (u.ownsRow b 41 31 (.slice (some ⟨b, 0, none⟩) n n) n xs) ∧ Hid (NsAt xs X A' k) ∧ Hid (ScN u b k X A' K lo) ∧ Hid (Below w.heap.size w u)) (fun i _ => n - (intOf i).toNat)
  case atStart => exact ⟨0, _, A, fun _ _ => 0, fun _ => b + 1, Nat.zero_le _, rfl, hown1, fun j hj => absurd hj (by omega), ⟨fun j hj => absurd hj (by omega), fun j hj => absurd hj (by omega), Nat.lt_succ_self _, unhide hsz⟩, B1⟩
  case round =>
    obtain ⟨k, xs, A', K, lo, hk, rfl, O, HX, HS, HB⟩ := hrel
    clear hown1 B1 hsz
    by_cases hlt : k < n
    · have hki : (k : Int) < (n : Int) := by omega
      have HP := hide ((unhide P k hlt).next (unhide HB))
      obtain ⟨bb, o, hao, hrg⟩ := (unhide HP).range
      replace hrg := hide hrg
      subst hao
      have E := hide (toNode_own (X k) (A k) (unhide hs k hlt) wr (unhide HP).inn)
      go_wp2_with (refine load_lnode rfl _ rfl bb (o + k * 31) rfl (X k) (A k) (unhide hrg) ?_)
      go_fit (unhide E)
      rintro r u1 ⟨s', Kn, rfl, hO, h5, hb⟩
      have hbu := hide (show b < wr.heap.size from ((unhide O).lt b rfl).2)
      replace HS := hide ((unhide HS).step (unhide hbu) hb hO h5)
      replace O := hide (own_below (unhide O) hb)
      replace HB := hide (below_two (unhide HB) hb)
      clear hb hO h5 hrg HP E hbu
      have hth := hide (own_there (unhide O) hlt)
      have hst := hide ((unhide HX).step s' (by have := (unhide O).1; omega))
      go_wp2_with (with_reducible refine store_node rfl _ _ rfl b (k * 31) (X k) s' rfl rfl (unhide hth) ?_)
      go_roundw
      case rel => exact ⟨k + 1, _, _, _, _, by omega, by go_num, own_setMany _ (unhide O), hst, (unhide HS).sets _ _, below_sets (unhide hbl) _ (unhide HB)⟩
      case measure => simp [intOf]; omega
    · have hke : k = n := by omega
      subst hke
      have hki : ¬ (k : Int) < (k : Int) := by omega
      go_wp2_with fail
      go_ret
      exact ⟨by rw [← unhide hb0]; rfl, ⟨A', by rw [← unhide hb0]; exact ⟨b, xs, K, lo, rfl, Nat.le_refl _, unhide O, unhide HX, unhide HS⟩⟩, unhide HB⟩

set_option maxHeartbeats 2000000 in
theorem szScene_any (X : Nat → Nd) (A : Nat → Na) (ao : Option Addr) (n cp : Nat) (hm : n ≤ maxLen) (hf : ∀ i, i < n → (X i).Fit) (w : World) (P : ∀ i, i < n → NrAt w ao i (X i) (A i)) :
    Calls Try.prog 13 #[.agg #[.slice ao n cp], .int .i64 1048576] w fun r w' => r = .returned (.int .i64 (if 1048576 < scT X n then -1 else 1048576 - (scT X n : Int))) ∧ Below w.heap.size w w' := by
  replace P := hide P
  have E := hide (fun u => szNodeS_any X A ao n cp hm hf u)
  go_enter Try.func13, Try.ntmps13
  go_upto_region 1 with fail
  have R := hide (new_row w (.cells #[.slice ao n cp] 49))
  have HB := hide (al1_below w (.cells #[.slice ao n cp] 49))
  generalize w.alloc (.cells #[.slice ao n cp] 49) = W at R HB ⊢
  obtain ⟨b1, hb1⟩ : ∃ b, Hid (b = w.heap.size) := ⟨_, rfl⟩
  rw [← unhide hb1] at R ⊢
  have c0 := row1 (unhide R)
  have F := hide (unhide E W (fun i hi => (unhide P i hi).next (unhide HB)))
  go_wp2_with fail
  go_fit (unhide F)
  rintro r w1 ⟨rfl, hb⟩
  replace HB := hide (below_two (unhide HB) hb)
  clear hb c0 F
  by_cases h : 1048576 < scT X n
  · rw [if_pos h]
    go_wp2_with fail
    go_ret
    exact ⟨rfl, unhide HB⟩
  · rw [if_neg h]
    have h0 : ¬ 1048576 - (scT X n : Int) < 0 := by omega
    go_wp2_with fail
    go_ret
    exact ⟨rfl, unhide HB⟩

theorem NdO.setc {w : World} {base b j : Nat} {K : Nat → Nat} {x : Nd} {s : Na} {v : Value} (h : NdO w base K x s) (hb : b < base) : NdO (w.setCell ⟨b, j, none⟩ v) base K x s :=
  let ⟨xs, a1, a2⟩ := h.v; let ⟨ys, b1, b2⟩ := h.p; let ⟨zs, c1, c2⟩ := h.d; let ⟨us, d1, d2⟩ := h.cv; let ⟨vs, e1, e2⟩ := h.cp
  ⟨⟨xs, own_setc a1 hb, a2⟩, ⟨ys, own_setc b1 hb, b2⟩, ⟨zs, own_setc c1 hb, c2⟩, ⟨us, own_setc d1 hb, d2⟩, ⟨vs, own_setc e1 hb, e2⟩, h.kv, h.kp, h.kd, h.kcv, h.kcp⟩
theorem ScV.setc {w : World} {base b j n c : Nat} {a : Option Addr} {X : Nat → Nd} {A : Nat → Na} {v : Value} (h : ScV w base a n c X A) (hb : b < base) : ScV (w.setCell ⟨b, j, none⟩ v) base a n c X A :=
  let ⟨q, ys, K, lo, h1, h2, h3, h4, h5⟩ := h; ⟨q, ys, K, lo, h1, h2, own_setc h3 hb, h4, fun i hi => (h5.own i hi).setc (by omega), h5.five, h5.first, by simpa [World.setCell] using h5.top⟩

set_option maxHeartbeats 4000000 in
set_option maxRecDepth 100000 in
theorem toScene_own (X : Nat → Nd) (A : Nat → Na) (ao : Option Addr) (n cp : Nat) (hn : n ≤ 1048576) (hs : ∀ i, i < n → (X i).Small) (w : World) (P : ∀ i, i < n → NrAt w ao i (X i) (A i)) :
    Calls Try.prog 14 #[.agg #[.slice ao n cp]] w fun r w' => ∃ a A', r = .returned (.agg #[.slice a n n]) ∧ ScV w' w.heap.size a n n X A' ∧ Below w.heap.size w w' := by
  replace P := hide P
  have E := hide (fun u => toNodeS_own X A ao n cp hn hs u)
  go_enter Try.func14, Try.ntmps14
  go_upto_region 2 with fail
  have R0 := hide (al3_0 w (.cells #[.slice ao n cp] 49) (.cells #[.slice none 0 0] 26) (.cells #[.slice none 0 0] 26))
  have R1 := hide (al3_1 w (.cells #[.slice ao n cp] 49) (.cells #[.slice none 0 0] 26) (.cells #[.slice none 0 0] 26))
  have R2 := hide (al3_2 w (.cells #[.slice ao n cp] 49) (.cells #[.slice none 0 0] 26) (.cells #[.slice none 0 0] 26))
  have HB := hide (al3_below w (.cells #[.slice ao n cp] 49) (.cells #[.slice none 0 0] 26) (.cells #[.slice none 0 0] 26))
  obtain ⟨b2, hb2⟩ : ∃ b, Hid (b = w.heap.size + 1 + 1) := ⟨_, rfl⟩
  obtain ⟨b1, hb1⟩ : ∃ b, Hid (b = w.heap.size + 1) := ⟨_, rfl⟩
  obtain ⟨b0, hb0⟩ : ∃ b, Hid (b = w.heap.size) := ⟨_, rfl⟩
  rw [← unhide hb2] at R2
  rw [← unhide hb1] at R1
  rw [← unhide hb0] at R0
  rw [← unhide hb2, ← unhide hb1, ← unhide hb0]
  have hne : Hid (b1 ≠ b2 ∧ w.heap.size ≤ b2 ∧ w.heap.size ≤ b1) := by unfold Hid; rw [unhide hb2, unhide hb1]; omega
  clear hb2 hb1 hb0
  generalize ((w.alloc (.cells #[.slice ao n cp] 49)).alloc (.cells #[.slice none 0 0] 26)).alloc (.cells #[.slice none 0 0] 26) = W at R0 R1 R2 HB ⊢
  have c0 := row1 (unhide R0)
  have F := hide (unhide E W (fun i hi => (unhide P i hi).next (unhide HB)))
  go_wp2_with fail
  go_fit (unhide F)
  rintro r w1 ⟨rfl, ⟨A', hV⟩, hb⟩
  have l1 := hide (show b1 < W.heap.size from heap_lt (unhide R1))
  have l2 := hide (show b2 < W.heap.size from heap_lt (unhide R2))
  have lw := hide (show w.heap.size ≤ W.heap.size from (unhide HB).size)
  replace R1 := hide (row_next hb (unhide R1))
  replace R2 := hide (row_next hb (unhide R2))
  replace HB := hide (below_two (unhide HB) hb)
  replace hV := hide hV
  clear hb c0 F R0
  generalize W.heap.size = b at hV l1 l2 lw ⊢
  have d0 := row1 (unhide R1)
  have e0 := row1 (unhide R2)
  have f1 := frozen_of_row w1 b1 0 _ _ (unhide R1)
  have f2 := frozen_of_row w1 b2 0 _ _ (unhide R2)
  have n1 : ¬ b1 = b2 := (unhide hne).1
  have n2 : ¬ b2 = b1 := fun e => (unhide hne).1 e.symm
  go_wp2_with fail
  refine bodyPost_ret (v := .agg #[.slice (some ⟨b, 0, none⟩) n n]) (by simp [results, Try.results14, go_sem, d0]) rfl ⟨_, A', rfl, ?_, ?_⟩
  · exact (((unhide hV).setc (unhide l2)).setc (unhide l1)).low (unhide lw)
  · exact ((unhide HB).setCell (p := ⟨b2, 0, none⟩) (unhide hne).2.1 _).setCell (p := ⟨b1, 0, none⟩) (unhide hne).2.2 _
end Go.Proofs.Ytdbphpekhmlmdaa

/-
  Scenes held against each other. (By sceneq.py.)
-/
namespace Go.Proofs.Ytdbphpekhmlmdaa
open Go.RowKit
set_option linter.unusedVariables false

theorem yields_node {ops : Array Oper} {S : World → Prop} {op : Oper} {a : Act} (hw : Region.wanted op (yielded ops a.tmps) = true) (y : Operand) (ho : op.op = .load 41 y)
    (b o : Nat) (hx : a.eval y = .pointer (some ⟨b, o, none⟩)) (x : Nd) (s : Na) (hS : ∀ w, S w → w.rangeAt b o (ndC x s).toList) : YieldsIf Try.prog ops S op (.agg (ndC x s)) a := by
  have h := yieldsIf_load_mid (P := Try.prog) hw 41 y ho b o hx (ndC x s).toList _ hS Try.underlying41 rfl (ndC_infoL x s)
  rwa [Array.toArray_toList] at h
theorem range_next {w u : World} {b o : Nat} {cs : List Value} (h : w.rangeAt b o cs) (hb : Below w.heap.size w u) : u.rangeAt b o cs := fun j v hv => kc hb (h j v hv)

set_option maxHeartbeats 4000000 in
set_option maxRecDepth 100000 in
theorem eqNodeS_same (X : Nat → Nd) (A A' : Nat → Na) (ao bo : Option Addr) (n cp cp' : Nat) (hn : n ≤ 1048576) (hs : ∀ i, i < n → (X i).Small) (w : World) (P : ∀ i, i < n → NrAt w ao i (X i) (A i)) (P' : ∀ i, i < n → NrAt w bo i (X i) (A' i)) :
    Calls Try.prog 32 #[.slice ao n cp, .slice bo n cp'] w fun r w' => r = .returned (.bool true) ∧ Below w.heap.size w w' := by
  replace P := hide P
  replace P' := hide P'
  replace hs := hide hs
  go_enter Try.func32, Try.ntmps32
  go_upto_region 4 with fail
  go_loopw [5] (fun i u => ∃ k : Nat, k ≤ n ∧ i = .int .i64 (k : Int) ∧ Hid (Below w.heap.size w u)) (fun i _ => n - (intOf i).toNat)
  case atStart => exact ⟨0, Nat.zero_le _, rfl, Below.refl _ _⟩
  case round =>
    obtain ⟨k, hk, rfl, HB⟩ := hrel
    by_cases hlt : k < n
    · have hki : (k : Int) < (n : Int) := by omega
      obtain ⟨b, o, hao, hrg⟩ := ((unhide P k hlt).next (unhide HB)).range
      obtain ⟨b', o', hao', hrg'⟩ := ((unhide P' k hlt).next (unhide HB)).range
      have HN := hide ((unhide P k hlt).next (unhide HB)).inn
      have HN' := hide ((unhide P' k hlt).next (unhide HB)).inn
      replace hrg := hide hrg
      replace hrg' := hide hrg'
      subst hao
      subst hao'
      have E := hide (eqNode_same (X k) (A k) (A' k) (unhide hs k hlt) wr.drew ((unhide HN).next (Below.refl _ _).drew) ((unhide HN').next (Below.refl _ _).drew))
      have hkeep : ∀ u, Below wr.drew.heap.size wr.drew u → (u.rangeAt b (o + k * 31) (ndC (X k) (A k)).toList ∧ u.rangeAt b' (o' + k * 31) (ndC (X k) (A' k)).toList) := fun u h => ⟨range_next (unhide hrg) (below_undrew h), range_next (unhide hrg') (below_undrew h)⟩
      go_upto_region 6 with fail
      refine wp_region_held_drew (S := (fun u => u.rangeAt b (o + k * 31) (ndC (X k) (A k)).toList ∧ u.rangeAt b' (o' + k * 31) (ndC (X k) (A' k)).toList)) (by kernel_rfl) ?_ (fun hHeld => ?_)
      · exact ⟨unhide hrg, unhide hrg'⟩
      refine wpAnyH_take (i := 0) (oi := { dst := some 17, op := Op.move (Operand.tmp 0), type := 24, pos := "exact.go:846", after := #[], guard := none }) (v := ?_) rfl (by kernel_rfl) (by kernel_rfl) (by kernel_rfl) (fun _ _ _ h => h) (Or.inl ⟨by rfl, ?_⟩) (by assumption) ?_
      rotate_left
      · intro w hSw; (try dsimp only at hSw); go_simp <;> with_reducible rfl
      try simp only [Act.put, List.setIfInBounds_toArray, List.set_cons_zero, List.set_cons_succ]
      refine wpAnyH_take (i := 1) (oi := { dst := some 18, op := Op.move (Operand.tmp 5), type := 3, pos := "exact.go:846", after := #[], guard := none }) (v := ?_) rfl (by kernel_rfl) (by kernel_rfl) (by kernel_rfl) (fun _ _ _ h => h) (Or.inl ⟨by rfl, ?_⟩) (by assumption) ?_
      rotate_left
      · intro w hSw; (try dsimp only at hSw); go_simp <;> with_reducible rfl
      try simp only [Act.put, List.setIfInBounds_toArray, List.set_cons_zero, List.set_cons_succ]
      refine wpAnyH_take (i := 2) (oi := { dst := some 19, op := Op.indexAddr 24 (Operand.tmp 17) (Operand.tmp 18), type := 0, pos := "exact.go:846", after := #[{ on := 0, ground := Ground.data }, { on := 1, ground := Ground.data }], guard := none }) (v := ?_) rfl (by kernel_rfl) (by kernel_rfl) (by kernel_rfl) (fun _ _ _ h => h) (Or.inl ⟨by rfl, ?_⟩) (by assumption) ?_
      rotate_left
      · intro w hSw; (try dsimp only at hSw); go_simp <;> with_reducible rfl
      try simp only [Act.put, List.setIfInBounds_toArray, List.set_cons_zero, List.set_cons_succ]
      refine wpAnyH_take (i := 3) (oi := { dst := some 20, op := Op.load 41 (Operand.tmp 19), type := 41, pos := "exact.go:846", after := #[{ on := 2, ground := Ground.data }], guard := none }) (v := .agg (ndC (X k) (A k))) rfl (by kernel_rfl) (by kernel_rfl) (by kernel_rfl) (fun _ _ _ h => h) (yields_node (by rfl) _ rfl b (o + k * 31) rfl (X k) (A k) (fun w h => h.1)) (by assumption) ?_
      try simp only [Act.put, List.setIfInBounds_toArray, List.set_cons_zero, List.set_cons_succ]
      refine wpAnyH_take (i := 4) (oi := { dst := some 21, op := Op.move (Operand.tmp 1), type := 24, pos := "exact.go:846", after := #[], guard := none }) (v := ?_) rfl (by kernel_rfl) (by kernel_rfl) (by kernel_rfl) (fun _ _ _ h => h) (Or.inl ⟨by rfl, ?_⟩) (by assumption) ?_
      rotate_left
      · intro w hSw; (try dsimp only at hSw); go_simp <;> with_reducible rfl
      try simp only [Act.put, List.setIfInBounds_toArray, List.set_cons_zero, List.set_cons_succ]
      refine wpAnyH_take (i := 5) (oi := { dst := some 22, op := Op.move (Operand.tmp 5), type := 3, pos := "exact.go:846", after := #[], guard := none }) (v := ?_) rfl (by kernel_rfl) (by kernel_rfl) (by kernel_rfl) (fun _ _ _ h => h) (Or.inl ⟨by rfl, ?_⟩) (by assumption) ?_
      rotate_left
      · intro w hSw; (try dsimp only at hSw); go_simp <;> with_reducible rfl
      try simp only [Act.put, List.setIfInBounds_toArray, List.set_cons_zero, List.set_cons_succ]
      refine wpAnyH_take (i := 6) (oi := { dst := some 23, op := Op.indexAddr 24 (Operand.tmp 21) (Operand.tmp 22), type := 0, pos := "exact.go:846", after := #[{ on := 4, ground := Ground.data }, { on := 5, ground := Ground.data }], guard := none }) (v := ?_) rfl (by kernel_rfl) (by kernel_rfl) (by kernel_rfl) (fun _ _ _ h => h) (Or.inl ⟨by rfl, ?_⟩) (by assumption) ?_
      rotate_left
      · intro w hSw; (try dsimp only at hSw); go_simp <;> with_reducible rfl
      try simp only [Act.put, List.setIfInBounds_toArray, List.set_cons_zero, List.set_cons_succ]
      refine wpAnyH_take (i := 7) (oi := { dst := some 24, op := Op.load 41 (Operand.tmp 23), type := 41, pos := "exact.go:846", after := #[{ on := 6, ground := Ground.data }], guard := none }) (v := .agg (ndC (X k) (A' k))) rfl (by kernel_rfl) (by kernel_rfl) (by kernel_rfl) (fun _ _ _ h => h) (yields_node (by rfl) _ rfl b' (o' + k * 31) rfl (X k) (A' k) (fun w h => h.2)) (by assumption) ?_
      try simp only [Act.put, List.setIfInBounds_toArray, List.set_cons_zero, List.set_cons_succ]
      refine wpAnyH_ready (rs := [8]) (by kernel_rfl) (by simp) ?_
      refine AllReadyH.cons (o := { dst := some 25, op := Op.call { callee := Callee.value (Operand.func 51), args := #[Operand.tmp 20, Operand.tmp 24], argTypes := #[41, 41] }, type := 4, pos := "exact.go:846", after := #[{ on := 3, ground := Ground.data }, { on := 7, ground := Ground.data }], guard := none }) rfl (fun K hK => ?_) AllReadyH.nil
      go_simp
      (first | (go_at_call 51; go_fit (unhide E); rintro e w4 ⟨rfl, hb⟩))
      refine hK.out _ _ ?_ (fun hHeld => ?_)
      · exact hkeep _ (by assumption)
      clear hK K
      try simp only [Act.put, List.setIfInBounds_toArray, List.set_cons_zero, List.set_cons_succ]
      refine wpAnyH_take (i := 9) (oi := { dst := some 26, op := Op.unOp UnOp.not 4 (Operand.tmp 25), type := 4, pos := "exact.go:846", after := #[{ on := 8, ground := Ground.data }], guard := none }) (v := ?_) rfl (by kernel_rfl) (by kernel_rfl) (by kernel_rfl) (fun _ _ _ h => h) (Or.inl ⟨by rfl, ?_⟩) (by assumption) ?_
      rotate_left
      · intro w hSw; (try dsimp only at hSw); go_simp <;> with_reducible rfl
      try simp only [Act.put, List.setIfInBounds_toArray, List.set_cons_zero, List.set_cons_succ]
      refine wpAnyH_done (by kernel_rfl) ?_ _
      replace HB := hide (below_two (unhide HB) (below_undrew hb))
      go_wp2_with fail
      go_roundw
      case rel => exact ⟨k + 1, by omega, by go_num, HB⟩
      case measure => simp [intOf]; omega
    · have hke : k = n := by omega
      subst hke
      have hki : ¬ (k : Int) < (k : Int) := by omega
      go_wp2_with fail
      go_ret
      exact ⟨rfl, unhide HB⟩

set_option maxHeartbeats 2000000 in
theorem eqScene_same (X : Nat → Nd) (A A' : Nat → Na) (ao bo : Option Addr) (n cp cp' : Nat) (hn : n ≤ 1048576) (hs : ∀ i, i < n → (X i).Small) (w : World) (P : ∀ i, i < n → NrAt w ao i (X i) (A i)) (P' : ∀ i, i < n → NrAt w bo i (X i) (A' i)) :
    Calls Try.prog 16 #[.agg #[.slice ao n cp], .agg #[.slice bo n cp']] w fun r w' => r = .returned (.bool true) ∧ Below w.heap.size w w' := by
  replace P := hide P
  replace P' := hide P'
  have E := hide (fun u => eqNodeS_same X A A' ao bo n cp cp' hn hs u)
  go_enter Try.func16, Try.ntmps16
  go_upto_region 1 with fail
  have R1 := hide (al2_0 w (.cells #[.slice ao n cp] 26) (.cells #[.slice bo n cp'] 26))
  have R2 := hide (al2_1 w (.cells #[.slice ao n cp] 26) (.cells #[.slice bo n cp'] 26))
  have HB := hide (al2_below w (.cells #[.slice ao n cp] 26) (.cells #[.slice bo n cp'] 26))
  obtain ⟨b2, hb2⟩ : ∃ b, Hid (b = w.heap.size + 1) := ⟨_, rfl⟩
  obtain ⟨b1, hb1⟩ : ∃ b, Hid (b = w.heap.size) := ⟨_, rfl⟩
  rw [← unhide hb2] at R2
  rw [← unhide hb1] at R1
  rw [← unhide hb2, ← unhide hb1]
  generalize (w.alloc (.cells #[.slice ao n cp] 26)).alloc (.cells #[.slice bo n cp'] 26) = W at R1 R2 HB ⊢
  have c0 := row1 (unhide R1)
  have d0 := row1 (unhide R2)
  have F := hide (unhide E W (fun i hi => (unhide P i hi).next (unhide HB)) (fun i hi => (unhide P' i hi).next (unhide HB)))
  go_wp2_with fail
  go_fit (unhide F)
  rintro r w1 ⟨rfl, hb⟩
  replace HB := hide (below_two (unhide HB) hb)
  go_wp2_with fail
  go_ret
  exact ⟨rfl, unhide HB⟩
end Go.Proofs.Ytdbphpekhmlmdaa

/-
  Lists of lists of points in the laws: alike, marked, held.
-/
namespace Go.Proofs.Ytdbphpekhmlmdaa
open Go.RowKit
set_option linter.unusedVariables false

theorem rows_apart' {w : World} {b1 e1 s1 n1 b2 e2 s2 n2 : Nat} {v1 v2 : Value} {xs ys : List Value} (h1 : w.ownsRow b1 e1 s1 v1 n1 xs) (h2 : w.ownsRow b2 e2 s2 v2 n2 ys) (he : e1 ≠ e2) : v1.ownBlock = none ∨ v1.ownBlock ≠ v2.ownBlock := by
  rcases h1.2 with ⟨rfl, _⟩ | ⟨g, cap, cur, rfl, _, hg, _⟩
  · exact .inl rfl
  · right
    rcases h2.2 with ⟨rfl, _⟩ | ⟨g', cap', cur', rfl, _, hg', _⟩
    · simp [Value.ownBlock]
    · intro e
      simp only [Value.ownBlock, Option.some.injEq] at e
      subst e
      rw [hg] at hg'
      injection hg' with hg'
      injection hg' with _ h3
      exact he h3
/-- One list of a list of lists, and where it lies. -/
theorem line_at {u : World} {base base' e n c i : Nat} {g : Nat} {vs : List Value} {L : List (List Pt)} (ho : u.ownsRow base e 1 (.slice (some ⟨g, 0, none⟩) n c) n vs) (h : Lines u base' vs L) (hn : n = L.length) (hi : i < L.length) :
    ∃ a d, vs[i]? = some (.slice a L[i].length d) ∧ u.cell? ⟨g, i, none⟩ = some (.slice a L[i].length d) ∧ u.ownsRow base' 37 2 (.slice a L[i].length d) L[i].length (ptsV L[i]) := by
  have hv : i < vs.length := by rw [h.len]; exact hi
  have h1 := h.own i vs[i] L[i] (List.getElem?_eq_getElem hv) (List.getElem?_eq_getElem hi)
  obtain ⟨a, d, e⟩ := own_form h1
  refine ⟨a, d, by rw [List.getElem?_eq_getElem hv, e], by rw [ho.cellAt i (by omega), List.getElem?_eq_getElem hv, e], by rw [e] at h1; exact h1⟩
theorem LinesV.form {u : World} {base : Nat} {v : Value} {L : List (List Pt)} (h : LinesV u base v L) : ∃ a c, v = .slice a L.length c :=
  let ⟨_, h1, _⟩ := h; own_form h1

/-- The cells ahead of number i. -/
def preN (L : List (List Pt)) : Nat → Nat
  | 0 => 0
  | i + 1 => preN L i + (L.getD i []).length * 2
theorem preN_le (L : List (List Pt)) (hl : ∀ l ∈ L, l.length ≤ 400000) : ∀ i, preN L i ≤ 800000 * i
  | 0 => by simp [preN]
  | i + 1 => by
    have := preN_le L hl i
    have h2 : (L.getD i []).length ≤ 400000 := by
      rw [List.getD_eq_getElem?_getD]
      cases h : L[i]? with
      | none => simp
      | some l => exact hl l (List.mem_of_getElem? h)
    simp only [preN]; omega
/-- Lists whose points have been marked from k on. -/
structure Ramps (u : World) (base : Nat) (vs : List Value) (L : List (List Pt)) (k : Nat) : Prop where
  len : vs.length = L.length
  own : ∀ (i : Nat) v l, vs[i]? = some v → L[i]? = some l → ∃ ys, u.ownsRow base 37 2 v l.length ys ∧ Ramp ys (k + preN L i) (l.length * 2)
theorem Ramps.next {u u' : World} {base k : Nat} {vs : List Value} {L : List (List Pt)} (h : Ramps u base vs L k) (hb : Below u.heap.size u u') : Ramps u' base vs L k :=
  ⟨h.len, fun i v l h1 h2 => let ⟨ys, h3, h4⟩ := h.own i v l h1 h2; ⟨ys, own_below h3 hb, h4⟩⟩
def RampsV (u : World) (base : Nat) (v : Value) (L : List (List Pt)) (k : Nat) : Prop := ∃ vs, u.ownsRow base 31 1 v L.length vs ∧ Ramps u base vs L k
theorem RampsV.next {u u' : World} {base k : Nat} {v : Value} {L : List (List Pt)} (h : RampsV u base v L k) (hb : Below u.heap.size u u') : RampsV u' base v L k :=
  let ⟨vs, h1, h2⟩ := h; ⟨vs, own_below h1 hb, h2.next hb⟩

/-- While the lists are marked: the first k are, the others stand as they stood. -/
structure Half2 (u : World) (base : Nat) (vs : List Value) (L : List (List Pt)) (k : Nat) : Prop where
  done : ∀ (j : Nat) v l, j < k → vs[j]? = some v → L[j]? = some l → ∃ ys, u.ownsRow base 37 2 v l.length ys ∧ Ramp ys (1 + preN L j) (l.length * 2)
  todo : ∀ (j : Nat) v l, k ≤ j → vs[j]? = some v → L[j]? = some l → u.ownsRow base 37 2 v l.length (ptsV l)
theorem Half2.step {u u' : World} {base k : Nat} {vs : List Value} {L : List (List Pt)} {v : Value} {l : List Pt} {ys : List Value} (h : Half2 u base vs L k) (hup : ∀ (i j : Nat) v v', i < j → vs[i]? = some v → vs[j]? = some v' → ∀ x y, v.ownBlock = some x → v'.ownBlock = some y → x < y)
    (hv : vs[k]? = some v) (hl : L[k]? = some l) (hg : u.grownBy u' v.ownBlock) (ho : u'.ownsRow base 37 2 v l.length ys) (hr : Ramp ys (1 + preN L k) (l.length * 2)) : Half2 u' base vs L (k + 1) := by
  have ap : ∀ (j : Nat) x, j ≠ k → vs[j]? = some x → x.ownBlock = none ∨ x.ownBlock ≠ v.ownBlock := by
    intro j x hj hx
    cases e1 : x.ownBlock with
    | none => exact .inl rfl
    | some b1 =>
      right
      intro e
      rcases Nat.lt_or_gt_of_ne hj with hlt | hlt
      · have := hup j k x v hlt hx hv b1 b1 e1 e.symm; omega
      · have := hup k j v x hlt hv hx b1 b1 e.symm e1; omega
  refine ⟨?_, ?_⟩
  · intro j x y hj h1 h2
    by_cases hjk : j = k
    · subst hjk
      rw [hv] at h1; rw [hl] at h2
      cases h1; cases h2
      exact ⟨ys, ho, hr⟩
    · obtain ⟨zs, h3, h4⟩ := h.done j x y (by omega) h1 h2
      exact ⟨zs, h3.kept hg (ap j x hjk h1), h4⟩
  · intro j x y hj h1 h2
    exact (h.todo j x y (by omega) h1 h2).kept hg (ap j x (by omega) h1)

end Go.Proofs.Ytdbphpekhmlmdaa

/-
  samePoints and sameLines of the laws.
-/
namespace Go.Proofs.Ytdbphpekhmlmdaa
open Go.RowKit
set_option linter.unusedVariables false

end Go.Proofs.Ytdbphpekhmlmdaa

/-
  Paths that are alike: laws.samePath.
-/
namespace Go.Proofs.Ytdbphpekhmlmdaa
open Go.RowKit
set_option linter.unusedVariables false

end Go.Proofs.Ytdbphpekhmlmdaa

/-
  laws.sameNode, laws.sameScene at equal nodes and scenes. (By samen.py.)
-/
namespace Go.Proofs.Ytdbphpekhmlmdaa
open Go.RowKit
set_option linter.unusedVariables false

theorem eqlMat_same (a b c d e f : Int) (w : World) : (Op.equalIn 10000 29 (.agg #[.int .i64 a, .int .i64 b, .int .i64 c, .int .i64 d, .int .i64 e, .int .i64 f]) (.agg #[.int .i64 a, .int .i64 b, .int .i64 c, .int .i64 d, .int .i64 e, .int .i64 f])).run Try.prog w = .ok true w := by
  have u3 := Try.underlying3
  have a3 := Try.isAgg3
  have z3 := Try.sizeOf3
  have hS : Try.prog.underlying 29 = some (.struct (Try.prog.fieldsOf 29)) := by kernel_rfl
  rw [show (10000 : Nat) = 9999 + 1 from rfl, run_equalIn_agg w 9999 29 _ _ hS (by kernel_rfl)]
  simp only [Program.fieldsOf, Try.underlying29]
  go_simp

theorem eqlPaint_same (k r g b a r2 g2 b2 a2 fx fy tx ty : Int) (w : World) : (Op.equalIn 10000 39 (.agg #[.int .i64 k, .int .i64 r, .int .i64 g, .int .i64 b, .int .i64 a, .int .i64 r2, .int .i64 g2, .int .i64 b2, .int .i64 a2, .int .i64 fx, .int .i64 fy, .int .i64 tx, .int .i64 ty]) (.agg #[.int .i64 k, .int .i64 r, .int .i64 g, .int .i64 b, .int .i64 a, .int .i64 r2, .int .i64 g2, .int .i64 b2, .int .i64 a2, .int .i64 fx, .int .i64 fy, .int .i64 tx, .int .i64 ty])).run Try.prog w = .ok true w := by
  have u3 := Try.underlying3
  have a3 := Try.isAgg3
  have z3 := Try.sizeOf3
  have a4 := Try.isAgg35
  have z4 := Try.sizeOf35
  have a5 := Try.isAgg37
  have z5 := Try.sizeOf37
  have hS : Try.prog.underlying 39 = some (.struct (Try.prog.fieldsOf 39)) := by kernel_rfl
  have e1 := eqlColor_at 9997
  have e2 := eqlPt_at 9997
  rw [show (10000 : Nat) = 9999 + 1 from rfl, run_equalIn_agg w 9999 39 _ _ hS (by kernel_rfl)]
  simp only [Program.fieldsOf, Try.underlying39]
  go_simp

end Go.Proofs.Ytdbphpekhmlmdaa

/-
  FnMats: the mat of a drawn node below the scene itself is its own; one deeper it is its parent's with its own inside. (By matslaw.py.)
-/
namespace Go.Proofs.Ytdbphpekhmlmdaa
open Go.RowKit
set_option linter.unusedVariables false

theorem comp6_no {x y : M6} (h : comp6k x y = false) : comp6 x y = zero6 := by
  have h' : compOk x.a x.b x.c x.d x.e x.f y.a y.b y.c y.d y.e y.f = false := h
  unfold comp6 compA compB compC compD compE compF
  rw [h']
  rfl
theorem mats_top {X : Nat → Nd} {n k : Nat} (hS : ScOk X n) (hk : k < n) (h : (X k).par = 0) : matM X n (X k).id = ((X k).mat, true) := by
  rw [matM_own (sceneOk_iff.2 hS) hk (first_only hS.uniq hk), h]
  exact matM_z hS 3 _
theorem mats_two {X : Nat → Nd} {n k : Nat} (hS : ScOk X n) (hk : k < n) (h : depthI X n (X k).id = 2) : ∃ j : Nat, j < n ∧ firstN X (X k).par n = (j : Int) ∧ matM X n (X k).id = (comp6 (X j).mat (X k).mat, comp6k (X j).mat (X k).mat) := by
  have h1 := (depth_par hS hk).1
  rcases above hS hk with ⟨_, e⟩ | ⟨j, hj, hf, hid⟩
  · rw [e, depth_zero] at h1; omega
  refine ⟨j, hj, hf, ?_⟩
  rw [matM_own (sceneOk_iff.2 hS) hk (first_only hS.uniq hk)]
  have h2 := (depth_par hS hj).1
  rw [hid] at h2
  have h0 : (X j).par = 0 := by
    rcases above hS hj with ⟨_, e⟩ | ⟨i, hi, _, e⟩
    · exact e
    · have h3 := depth_pos hS hi
      rw [e] at h3; omega
  cases hc : comp6k (X j).mat (X k).mat with
  | true =>
    rw [show (3 : Nat) = 2 + 1 from rfl, upM_yes hf hc, h0]
    exact matM_z hS 2 _
  | false => rw [show (3 : Nat) = 2 + 1 from rfl, upM_no hf hc, comp6_no hc]

set_option maxHeartbeats 16000000 in
set_option maxRecDepth 100000 in
theorem fnMats_walk (a0 : Option Addr) (len0 cap0 : Nat) (z0 : List Int) (w : World) (w0 : IsRow .u8 w a0 len0 cap0 z0) :
    Calls Try.prog 3 #[.slice a0 len0 cap0] w fun e w' => e = .returned (.bool true) ∧ Below w.heap.size w w' := by
  by_cases hl : len0 ≤ 1048576
  rotate_left
  · go_enter Try.func3, Try.ntmps3
    go_wp2_with (go_at_call 5; go_must (refine (big_yes a0 len0 cap0 hl _).mono ?_); rintro e w1 ⟨rfl, rfl⟩)
    go_ret
    exact ⟨rfl, Below.refl _ _⟩
  have HI := hide (InB.of_row w0)
  clear w0
  go_enter Try.func3, Try.ntmps3
  go_wp2_with fail
  refine (big_no a0 len0 cap0 hl _).mono ?_
  rintro e w1 ⟨rfl, hw⟩
  rw [hw]
  clear hw w1
  go_wp2_with fail
  refine (drawScene_any a0 len0 cap0 _ hl (unhide HI)).mono ?_
  rintro e w2 ⟨⟨n, p, c, X, A, rfl, hn5, hnc, hS, hN, hid⟩, hb⟩
  go_upto_region 4 with fail
  have R3 := hide (new_row w2 (.cells #[.slice p n c] 26))
  have HB := hide (below_two hb (al1_below w2 (.cells #[.slice p n c] 26)))
  replace hN := hide (fun i hi => (hN i hi).next (al1_below w2 (.cells #[.slice p n c] 26)))
  clear hb HI
  generalize w2.alloc (.cells #[.slice p n c] 26) = W at R3 HB hN ⊢
  generalize w2.heap.size = b3 at R3 ⊢
  have RR := hide (fun u (hu : Below W.heap.size W u) => row1 (row_next hu (unhide R3)))
  have hok : ∀ i, i < n → nodeOkB (X i) = true := fun i hi => (okAt_iff.1 (hS.2 i hi)).1
  have hsm : ∀ i, i < n → (X i).Small := fun i hi => node_small (hok i hi)
  have hw1 : ∀ i, i < n → (Lit.int .i64 (X i).id).wf = true := fun i hi => WalkArith.wf_i64 (by have := (node_ids (hok i hi)).1; omega)
  have hw2 : ∀ i, i < n → (Lit.int .i64 (X i).par).wf = true := fun i hi => WalkArith.wf_i64 (by have := (node_ids (hok i hi)).2.1; omega)
  have hn : n ≤ 1048576 := by omega
  have NN := hide (fun u (hu : Below W.heap.size W u) i hi => (unhide hN i hi).next hu)
  have EM := hide (fun z (hz : (Lit.int .i64 z).wf = true) u (hu : Below W.heap.size W u) => implMatOf_any X A p n c hn hsm hw1 hw2 z hz u (unhide NN u hu))
  have ES := hide (fun z u (hu : Below W.heap.size W u) => specMatOf_any X A p n c hn hsm z u (unhide NN u hu))
  have ED := hide (fun z u (hu : Below W.heap.size W u) => specDepthOf_any X A p n c hn z u (unhide NN u hu))
  have EA := hide (fun z u (hu : Below W.heap.size W u) => specNodeAt_any X A p n c hn z u (unhide NN u hu))
  have ESc := hide (fun u (hu : Below W.heap.size W u) => (implSceneOk_any X A p n c hn hsm hw1 hw2 u (unhide NN u hu)).mono fun r w' h => show r = .returned (.bool true) ∧ Below u.heap.size u w' by rw [sceneOk_iff.2 hS] at h; exact h)
  have EZ := hide (fun u => (implMatOf_any X A none 0 0 (by omega) (fun i hi => absurd hi (by omega)) (fun i hi => absurd hi (by omega)) (fun i hi => absurd hi (by omega)) 1 (WalkArith.wf_i64 (by omega)) u (fun i hi => absurd hi (by omega))).mono fun r w' h => show r = .returned (.tuple #[.agg (mC zero6), .bool false]) ∧ Below u.heap.size u w' by
    rw [matM_none (show firstN X 1 0 < 0 by show (-1 : Int) < 0; decide)] at h
    exact h)
  replace hS := hide hS
  replace hw1 := hide hw1
  clear hsm hid hN R3 hnc hok hw2
  have BB := hide (Below.refl W.heap.size W)
  go_wp2_with fail
  go_loopw [4] (fun i u => ∃ k : Nat, k ≤ n ∧ i = .int .i64 (k : Int) ∧ Hid (Below W.heap.size W u)) (fun i _ => n - (intOf i).toNat)
  case atStart => exact ⟨0, Nat.zero_le _, rfl, BB⟩
  case round =>
    clear BB
    obtain ⟨k, hk, rfl, BB⟩ := hrel
    have cc := unhide RR _ (unhide BB)
    by_cases hlt : k < n
    · have hlt' : (k : Int) < (n : Int) := by omega
      obtain ⟨b, o, hao, hrg⟩ := (unhide NN _ (unhide BB) k hlt).range
      subst hao
      replace hrg := hide hrg
      have EMk := hide (unhide EM (X k).id (unhide hw1 k hlt))
      have ESk := hide (unhide ES (X k).id)
      have EDk := hide (unhide ED (X k).id)
      have htop := hide (fun (h : (X k).par = 0) => mats_top (unhide hS) hlt h)
      have htwo := hide (fun (h : depthI X n (X k).id = 2) => mats_two (unhide hS) hlt h)
      obtain ⟨R, hR⟩ : ∃ z, Hid (matM X n (X k).id = z) := ⟨_, rfl⟩
      rw [unhide hR] at EMk ESk htop htwo
      obtain ⟨dp, hdp⟩ : ∃ z, Hid (depthI X n (X k).id = z) := ⟨_, rfl⟩
      rw [unhide hdp] at EDk htwo
      obtain ⟨xx, hxx⟩ : ∃ z, Hid (X k = z) := ⟨_, rfl⟩
      obtain ⟨ss, hss⟩ : ∃ z, Hid (A k = z) := ⟨_, rfl⟩
      rw [unhide hxx] at EMk ESk EDk htop htwo
      rw [unhide hxx, unhide hss] at hrg
      obtain ⟨xid, hxid⟩ : ∃ z, Hid (xx.id = z) := ⟨_, rfl⟩
      rw [unhide hxid] at EMk ESk EDk
      obtain ⟨m1, hm1⟩ : ∃ z, Hid (xx.mat = z) := ⟨_, rfl⟩
      rw [unhide hm1] at htop htwo
      obtain ⟨xpar, hxpar⟩ : ∃ z, Hid (xx.par = z) := ⟨_, rfl⟩
      rw [unhide hxpar] at htop htwo
      clear hR hdp hxx hss
      go_upto_region 8 with (first | refine load_node rfl _ rfl b (o + k * 31) rfl xx ss (unhide hrg) ?_ | refine store_new rfl _ _ rfl _ xx ss rfl rfl rfl ?_)
      have R5 := hide (new_row wr (.cells (ndC xx ss) 41))
      have B5 := hide (below_two (unhide BB) (al1_below wr (.cells (ndC xx ss) 41)))
      clear cc hrg BB
      generalize wr.alloc (.cells (ndC xx ss) 41) = V at R5 B5 ⊢
      generalize wr.heap.size = b5 at R5 ⊢
      have cc := unhide RR _ (unhide B5)
      have c5 : V.cell? ⟨b5, 0, none⟩ = some (.int .i64 xid) := by rw [← unhide hxid]; exact (nd_heads (unhide R5)).1
      go_wp2_with fail
      go_fit (unhide EMk _ (unhide B5))
      rintro r w6 ⟨rfl, hb⟩
      replace R5 := hide (row_next hb (unhide R5))
      replace B5 := hide (below_two (unhide B5) hb)
      clear hb cc c5 EMk
      obtain ⟨m2, y2⟩ := R
      go_upto_region 9 with (refine mat_new rfl _ _ rfl _ m2 rfl rfl rfl ?_)
      have R6 := hide (new_row w6 (.cells (mC m2) 29))
      replace R5 := hide (row_next (al1_below w6 (.cells (mC m2) 29)) (unhide R5))
      replace B5 := hide (below_two (unhide B5) (al1_below w6 (.cells (mC m2) 29)))
      generalize w6.alloc (.cells (mC m2) 29) = V6 at R5 R6 B5 ⊢
      generalize w6.heap.size = b6 at R6 ⊢
      have cc := unhide RR _ (unhide B5)
      have c5 : V6.cell? ⟨b5, 0, none⟩ = some (.int .i64 xid) := by rw [← unhide hxid]; exact (nd_heads (unhide R5)).1
      go_wp2_with fail
      go_fit (unhide ESk _ (unhide B5))
      rintro r w8 ⟨rfl, hb⟩
      replace R5 := hide (row_next hb (unhide R5))
      replace R6 := hide (row_next hb (unhide R6))
      replace B5 := hide (below_two (unhide B5) hb)
      clear hb cc c5 ESk
      go_upto_region 10 with (refine mat_new rfl _ _ rfl _ m2 rfl rfl rfl ?_)
      have R8 := hide (new_row w8 (.cells (mC m2) 29))
      replace R5 := hide (row_next (al1_below w8 (.cells (mC m2) 29)) (unhide R5))
      replace R6 := hide (row_next (al1_below w8 (.cells (mC m2) 29)) (unhide R6))
      replace B5 := hide (below_two (unhide B5) (al1_below w8 (.cells (mC m2) 29)))
      generalize w8.alloc (.cells (mC m2) 29) = U at R5 R6 R8 B5 ⊢
      generalize w8.heap.size = b8 at R8 ⊢
      obtain ⟨r0, r1, r2, r3, r4, r5⟩ := mcells (unhide R6)
      obtain ⟨s0, s1, s2, s3, s4, s5⟩ := mcells (unhide R8)
      have hyy : (y2 != y2) = false := by cases y2 <;> rfl
      have q2 : ∀ u, (Op.equalIn 10000 29 (.agg #[.int .i64 m2.a, .int .i64 m2.b, .int .i64 m2.c, .int .i64 m2.d, .int .i64 m2.e, .int .i64 m2.f]) (.agg #[.int .i64 m2.a, .int .i64 m2.b, .int .i64 m2.c, .int .i64 m2.d, .int .i64 m2.e, .int .i64 m2.f])).run Try.prog u = .ok true u := fun u => eqlMat_same _ _ _ _ _ _ u
      go_upto_region 12 with fail
      clear hyy s0 s1 s2 s3 s4 s5 R8
      trace_state
      go_cut [64] (fun s u => s = .bool false ∧ u = U)
      case first =>
        have c5 : U.cell? ⟨b5, 1, none⟩ = some (.int .i64 xpar) := by rw [← unhide hxpar]; exact (nd_heads (unhide R5)).2
        by_cases h0 : xpar = 0
        · have ht := unhide htop h0
          obtain ⟨e1, e2⟩ := Prod.mk.inj ht
          have hny : (!y2) = false := by rw [e2]; rfl
          have q4 : ∀ u, (Op.equalIn 10000 29 (.agg #[.int .i64 m2.a, .int .i64 m2.b, .int .i64 m2.c, .int .i64 m2.d, .int .i64 m2.e, .int .i64 m2.f]) (.agg #[.int .i64 m1.a, .int .i64 m1.b, .int .i64 m1.c, .int .i64 m1.d, .int .i64 m1.e, .int .i64 m1.f])).run Try.prog u = .ok true u := by rw [e1]; exact fun u => eqlMat_same _ _ _ _ _ _ u
          have h5 : U.rangeAt b5 3 (mC m1).toList := by
            rw [← unhide hm1]
            exact nd_mat (o := 0) (nd_rng (unhide R5))
          have s0 : U.cell? ⟨b5, 3, none⟩ = some (.int .i64 m1.a) := h5 0 _ rfl
          have s1 : U.cell? ⟨b5, 4, none⟩ = some (.int .i64 m1.b) := h5 1 _ rfl
          have s2 : U.cell? ⟨b5, 5, none⟩ = some (.int .i64 m1.c) := h5 2 _ rfl
          have s3 : U.cell? ⟨b5, 6, none⟩ = some (.int .i64 m1.d) := h5 3 _ rfl
          have s4 : U.cell? ⟨b5, 7, none⟩ = some (.int .i64 m1.e) := h5 4 _ rfl
          have s5 : U.cell? ⟨b5, 8, none⟩ = some (.int .i64 m1.f) := h5 5 _ rfl
          subst h0
          clear ht e1 e2 htwo htop h5
          go_wp2_with fail
          go_meet
          exact ⟨rfl, rfl⟩
        · have hq : (xpar == 0) = false := beq_eq_false_iff_ne.2 h0
          go_wp2_with fail
          go_meet
          exact ⟨rfl, rfl⟩
      case rest =>
      obtain ⟨rfl, hu⟩ := hcut
      rw [hu]
      clear hu htop r0 r1 r2 r3 r4 r5
      have cc := unhide RR _ (unhide B5)
      have c5 : U.cell? ⟨b5, 0, none⟩ = some (.int .i64 xid) := by rw [← unhide hxid]; exact (nd_heads (unhide R5)).1
      go_wp2_with fail
      go_fit (unhide EDk _ (unhide B5))
      rintro r Y ⟨rfl, hb⟩
      replace R5 := hide (row_next hb (unhide R5))
      replace R6 := hide (row_next hb (unhide R6))
      replace B5 := hide (below_two (unhide B5) hb)
      clear hb cc c5 EDk
      by_cases hd : dp = 2
      rotate_left
      · have hq : (dp == 2) = false := beq_eq_false_iff_ne.2 hd
        clear hd
        go_wp2_with fail
        go_roundw
        case rel => exact ⟨k + 1, by omega, by go_num, B5⟩
        case measure => simp [intOf]; omega
      · subst hd
        obtain ⟨j, hj, hfj, ht⟩ := unhide htwo rfl
        obtain ⟨e1, e2⟩ := Prod.mk.inj ht
        have hj' : (j : Int) < (n : Int) := by omega
        have EAj := hide (fun u (hu : Below Y.heap.size Y u) => (unhide EA xpar u (below_two (unhide B5) hu)).mono fun r w' h => show r = .returned (.int .i64 (j : Int)) ∧ Below u.heap.size u w' by rw [hfj] at h; exact h)
        have hRJ0 := hide (fun u (hu : Below Y.heap.size Y u) => show u.rangeAt b (o + j * 31) (ndC (X j) (A j)).toList by
          obtain ⟨b', o', e, h⟩ := (unhide NN u (below_two (unhide B5) hu) j hj).range
          cases e
          exact h)
        obtain ⟨M, hM⟩ : ∃ z, Hid ((X j).mat = z) := ⟨_, rfl⟩
        have hRJ := hide (fun u (hu : Below Y.heap.size Y u) => show u.rangeAt b (o + j * 31 + 3) (mC M).toList by rw [← unhide hM]; exact nd_mat (unhide hRJ0 u hu))
        have hR5 := hide (fun u (hu : Below Y.heap.size Y u) => show u.rangeAt b5 3 (mC m1).toList by
          rw [← unhide hm1]
          exact nd_mat (o := 0) (nd_rng (row_next hu (unhide R5))))
        rw [unhide hM] at e1 e2
        replace e1 := hide e1
        replace e2 := hide e2
        have hS15 := hide (fun u (hu : Below Y.heap.size Y u) => show Hid (Below Y.heap.size Y u) ∧ u.cell? ⟨b3, 0, none⟩ = some (.slice (some ⟨b, o, none⟩) n c) ∧ u.cell? ⟨b5, 1, none⟩ = some (.int .i64 xpar) from ⟨hu, unhide RR _ (below_two (unhide B5) hu), by rw [← unhide hxpar]; exact (nd_heads (row_next hu (unhide R5))).2⟩)
        clear ht hfj hRJ0 hM htwo hxid
        go_upto_region 15 with fail
        go_cut [10, 11] (fun s t u => t = .bool (comp6k M m1) ∧ ∃ q, s = .pointer (some ⟨q, 0, none⟩) ∧ Hid (u.heap[q]? = some (.cells (mC (comp6 M m1)) 29 (0, 0))) ∧ Hid (Below Y.heap.size Y u))
        case first =>
          refine wp_region_held_drew (S := (fun u => Hid (Below Y.heap.size Y u) ∧ u.cell? ⟨b3, 0, none⟩ = some (.slice (some ⟨b, o, none⟩) n c) ∧ u.cell? ⟨b5, 1, none⟩ = some (.int .i64 xpar))) (by kernel_rfl) ?_ (fun hHeld => ?_)
          · exact unhide hS15 _ (Below.refl _ _).drew
          have HU := hide (show Below Y.heap.size Y Y.drew from (Below.refl _ _).drew)
          generalize Y.drew = V8 at HU hHeld ⊢
          refine wpAnyH_take (i := 0) (oi := { dst := some 71, op := Op.fieldAddr 26 (Operand.tmp 3) 0, type := 0, pos := "laws.go:825", after := #[], guard := none }) (v := ?_) rfl (by kernel_rfl) (by kernel_rfl) (by kernel_rfl) (fun _ _ _ h => h) (Or.inl ⟨by rfl, ?_⟩) (by assumption) ?_
          rotate_left
          · intro w hSw; (try dsimp only at hSw); go_simp <;> with_reducible rfl
          try simp only [Act.put, List.setIfInBounds_toArray, List.set_cons_zero, List.set_cons_succ]
          refine wpAnyH_take (i := 1) (oi := { dst := some 72, op := Op.load 24 (Operand.tmp 71), type := 24, pos := "laws.go:825", after := #[{ on := 0, ground := Ground.data }], guard := none }) (v := ?_) rfl (by kernel_rfl) (by kernel_rfl) (by kernel_rfl) (fun _ _ _ h => h) (Or.inl ⟨by rfl, ?_⟩) (by assumption) ?_
          rotate_left
          · intro w hSw; (try dsimp only at hSw); go_simp <;> with_reducible rfl
          try simp only [Act.put, List.setIfInBounds_toArray, List.set_cons_zero, List.set_cons_succ]
          refine wpAnyH_take (i := 2) (oi := { dst := some 73, op := Op.load 26 (Operand.tmp 3), type := 26, pos := "laws.go:825", after := #[], guard := none }) (v := ?_) rfl (by kernel_rfl) (by kernel_rfl) (by kernel_rfl) (fun _ _ _ h => h) (Or.inl ⟨by rfl, ?_⟩) (by assumption) ?_
          rotate_left
          · intro w hSw; (try dsimp only at hSw); go_simp <;> with_reducible rfl
          try simp only [Act.put, List.setIfInBounds_toArray, List.set_cons_zero, List.set_cons_succ]
          refine wpAnyH_take (i := 3) (oi := { dst := some 74, op := Op.fieldAddr 41 (Operand.tmp 5) 1, type := 0, pos := "laws.go:825", after := #[], guard := none }) (v := ?_) rfl (by kernel_rfl) (by kernel_rfl) (by kernel_rfl) (fun _ _ _ h => h) (Or.inl ⟨by rfl, ?_⟩) (by assumption) ?_
          rotate_left
          · intro w hSw; (try dsimp only at hSw); go_simp <;> with_reducible rfl
          try simp only [Act.put, List.setIfInBounds_toArray, List.set_cons_zero, List.set_cons_succ]
          refine wpAnyH_take (i := 4) (oi := { dst := some 75, op := Op.load 3 (Operand.tmp 74), type := 3, pos := "laws.go:825", after := #[{ on := 3, ground := Ground.data }], guard := none }) (v := ?_) rfl (by kernel_rfl) (by kernel_rfl) (by kernel_rfl) (fun _ _ _ h => h) (Or.inl ⟨by rfl, ?_⟩) (by assumption) ?_
          rotate_left
          · intro w hSw; (try dsimp only at hSw); go_simp <;> with_reducible rfl
          try simp only [Act.put, List.setIfInBounds_toArray, List.set_cons_zero, List.set_cons_succ]
          refine wpAnyH_take (i := 9) (oi := { dst := some 80, op := Op.fieldAddr 41 (Operand.tmp 5) 3, type := 0, pos := "laws.go:825", after := #[], guard := none }) (v := ?_) rfl (by kernel_rfl) (by kernel_rfl) (by kernel_rfl) (fun _ _ _ h => h) (Or.inl ⟨by rfl, ?_⟩) (by assumption) ?_
          rotate_left
          · intro w hSw; (try dsimp only at hSw); go_simp <;> with_reducible rfl
          try simp only [Act.put, List.setIfInBounds_toArray, List.set_cons_zero, List.set_cons_succ]
          refine wpAnyH_take (i := 10) (oi := { dst := some 81, op := Op.load 29 (Operand.tmp 80), type := 29, pos := "laws.go:825", after := #[{ on := 9, ground := Ground.data }], guard := none }) (v := .agg (mC m1)) rfl (by kernel_rfl) (by kernel_rfl) (by kernel_rfl) (fun _ _ _ h => h) (yields_mat rfl _ rfl b5 3 rfl m1 (fun u hu => unhide hR5 u (unhide hu.1))) (by assumption) ?_
          try simp only [Act.put, List.setIfInBounds_toArray, List.set_cons_zero, List.set_cons_succ]
          refine wpAnyH_ready (rs := [5, 15]) (by kernel_rfl) (by simp) ?_
          refine AllReadyH.cons (o := { dst := some 76, op := Op.call { callee := Callee.value (Operand.func 11), args := #[Operand.tmp 73, Operand.tmp 75], argTypes := #[26, 3] }, type := 3, pos := "laws.go:825", after := #[{ on := 2, ground := Ground.data }, { on := 4, ground := Ground.data }], guard := none }) rfl (fun K hK => ?_) ?_
          · go_simp
            (go_at_call 11; go_fit (unhide EAj _ (unhide HU)); rintro r VA ⟨rfl, hb9⟩)
            replace HU := hide (below_two (unhide HU) hb9)
            clear hb9
            refine hK.out _ _ ?_ (fun hHeld => ?_)
            · exact unhide hS15 _ (unhide HU)
            clear hK K
            try simp only [Act.put, List.setIfInBounds_toArray, List.set_cons_zero, List.set_cons_succ]
            refine wpAnyH_take (i := 6) (oi := { dst := some 77, op := Op.indexAddr 24 (Operand.tmp 72) (Operand.tmp 76), type := 0, pos := "laws.go:825", after := #[{ on := 1, ground := Ground.data }, { on := 5, ground := Ground.data }], guard := none }) (v := ?_) rfl (by kernel_rfl) (by kernel_rfl) (by kernel_rfl) (fun _ _ _ h => h) (Or.inl ⟨by rfl, ?_⟩) (by assumption) ?_
            rotate_left
            · intro w hSw; (try dsimp only at hSw); go_simp <;> with_reducible rfl
            try simp only [Act.put, List.setIfInBounds_toArray, List.set_cons_zero, List.set_cons_succ]
            refine wpAnyH_take (i := 7) (oi := { dst := some 78, op := Op.fieldAddr 41 (Operand.tmp 77) 3, type := 0, pos := "laws.go:825", after := #[{ on := 6, ground := Ground.data }], guard := none }) (v := ?_) rfl (by kernel_rfl) (by kernel_rfl) (by kernel_rfl) (fun _ _ _ h => h) (Or.inl ⟨by rfl, ?_⟩) (by assumption) ?_
            rotate_left
            · intro w hSw; (try dsimp only at hSw); go_simp <;> with_reducible rfl
            try simp only [Act.put, List.setIfInBounds_toArray, List.set_cons_zero, List.set_cons_succ]
            refine wpAnyH_take (i := 8) (oi := { dst := some 79, op := Op.load 29 (Operand.tmp 78), type := 29, pos := "laws.go:825", after := #[{ on := 7, ground := Ground.data }], guard := none }) (v := .agg (mC M)) rfl (by kernel_rfl) (by kernel_rfl) (by kernel_rfl) (fun _ _ _ h => h) (yields_mat rfl _ rfl b (o + j * 31 + 3) rfl M (fun u hu => unhide hRJ u (unhide hu.1))) (by assumption) ?_
            try simp only [Act.put, List.setIfInBounds_toArray, List.set_cons_zero, List.set_cons_succ]
            refine wpAnyH_ready (rs := [11, 15]) (by kernel_rfl) (by simp) ?_
            refine AllReadyH.cons (o := { dst := some 82, op := Op.call { callee := Callee.value (Operand.func 10), args := #[Operand.tmp 79, Operand.tmp 81], argTypes := #[29, 29] }, type := 42, pos := "laws.go:825", after := #[{ on := 8, ground := Ground.data }, { on := 10, ground := Ground.data }, { on := 5, ground := Ground.chain }], guard := none }) rfl (fun K hK => ?_) ?_
            · go_simp
              (go_at_call 10; go_fit (implCompose_m M m1 _); rintro r VB ⟨rfl, hb9⟩)
              replace HU := hide (below_two (unhide HU) hb9)
              clear hb9
              refine hK.out _ _ ?_ (fun hHeld => ?_)
              · exact unhide hS15 _ (unhide HU)
              clear hK K
              try simp only [Act.put, List.setIfInBounds_toArray, List.set_cons_zero, List.set_cons_succ]
              refine wpAnyH_take (i := 12) (oi := { dst := some 70, op := Op.move (Operand.tmp 82), type := 42, pos := "laws.go:825", after := #[{ on := 11, ground := Ground.data }], guard := none }) (v := ?_) rfl (by kernel_rfl) (by kernel_rfl) (by kernel_rfl) (fun _ _ _ h => h) (Or.inl ⟨by rfl, ?_⟩) (by assumption) ?_
              rotate_left
              · intro w hSw; (try dsimp only at hSw); go_simp <;> with_reducible rfl
              try simp only [Act.put, List.setIfInBounds_toArray, List.set_cons_zero, List.set_cons_succ]
              refine wpAnyH_take (i := 13) (oi := { dst := some 83, op := Op.extract (Operand.tmp 70) 0, type := 29, pos := "laws.go:825", after := #[{ on := 12, ground := Ground.data }], guard := none }) (v := ?_) rfl (by kernel_rfl) (by kernel_rfl) (by kernel_rfl) (fun _ _ _ h => h) (Or.inl ⟨by rfl, ?_⟩) (by assumption) ?_
              rotate_left
              · intro w hSw; (try dsimp only at hSw); go_simp <;> with_reducible rfl
              try simp only [Act.put, List.setIfInBounds_toArray, List.set_cons_zero, List.set_cons_succ]
              refine wpAnyH_take (i := 14) (oi := { dst := some 84, op := Op.extract (Operand.tmp 70) 1, type := 4, pos := "laws.go:825", after := #[{ on := 12, ground := Ground.data }, { on := 16, ground := Ground.gcOnly Departure.lateStores }], guard := none }) (v := ?_) rfl (by kernel_rfl) (by kernel_rfl) (by kernel_rfl) (fun _ _ _ h => h) (Or.inl ⟨by rfl, ?_⟩) (by assumption) ?_
              rotate_left
              · intro w hSw; (try dsimp only at hSw); go_simp <;> with_reducible rfl
              try simp only [Act.put, List.setIfInBounds_toArray, List.set_cons_zero, List.set_cons_succ]
              refine wpAnyH_ready (rs := [15]) (by kernel_rfl) (by simp) ?_
              refine AllReadyH.cons (o := { dst := some 10, op := Op.alloc 29, type := 0, pos := "laws.go:825", after := #[], guard := none }) rfl (fun K hK => ?_) AllReadyH.nil
              refine mstep_alloc rfl rfl ?_
              have R9 := hide (new_row VB (.cells (mC zero6) 29))
              have l9 := hide (show Y.heap.size ≤ VB.heap.size from (unhide HU).size)
              replace HU := hide (below_two (unhide HU) (al1_below VB (.cells (mC zero6) 29)))
              generalize VB.alloc (.cells (mC zero6) 29) = VC at HU R9 ⊢
              generalize VB.heap.size = b9 at R9 l9 ⊢
              refine hK.out _ _ ?_ (fun hHeld => ?_)
              · exact unhide hS15 _ (unhide HU)
              clear hK K
              try simp only [Act.put, List.setIfInBounds_toArray, List.set_cons_zero, List.set_cons_succ]
              refine wpAnyH_ready (rs := [16]) (by kernel_rfl) (by simp) ?_
              refine AllReadyH.cons (o := { dst := none, op := Op.store 29 (Operand.tmp 10) (Operand.tmp 83), type := 0, pos := "laws.go:825", after := #[{ on := 15, ground := Ground.data }, { on := 13, ground := Ground.data }, { on := 11, ground := Ground.chain }, { on := 0, ground := Ground.phase }, { on := 1, ground := Ground.phase }, { on := 2, ground := Ground.phase }, { on := 3, ground := Ground.phase }, { on := 4, ground := Ground.phase }, { on := 5, ground := Ground.phase }, { on := 6, ground := Ground.phase }, { on := 7, ground := Ground.phase }, { on := 8, ground := Ground.phase }, { on := 9, ground := Ground.phase }, { on := 10, ground := Ground.phase }, { on := 11, ground := Ground.phase }, { on := 12, ground := Ground.phase }, { on := 13, ground := Ground.phase }, { on := 14, ground := Ground.textOnly Departure.lateStores }, { on := 15, ground := Ground.phase }], guard := none }) rfl (fun K hK => ?_) AllReadyH.nil
              refine mstep_store rfl _ _ rfl rfl rfl (unhide R9) ?_
              replace R9 := hide (mrow_set (C := mC (comp6 M m1)) (unhide R9))
              replace HU := hide (below_setRow (unhide HU) (unhide l9) (mC (comp6 M m1)))
              generalize VC.setRow b9 (mC (comp6 M m1)) = WL at R9 HU ⊢
              refine hK.out _ _ ?_ (fun hHeld => ?_)
              · exact unhide hS15 _ (unhide HU)
              clear hK K
              try simp only [Act.put]
              refine wpAnyH_take (i := 17) (oi := { dst := some 11, op := Op.assign (Operand.tmp 84), type := 4, pos := "laws.go:825", after := #[{ on := 14, ground := Ground.data }, { on := 16, ground := Ground.chain }, { on := 0, ground := Ground.phase }, { on := 1, ground := Ground.phase }, { on := 2, ground := Ground.phase }, { on := 3, ground := Ground.phase }, { on := 4, ground := Ground.phase }, { on := 5, ground := Ground.phase }, { on := 6, ground := Ground.phase }, { on := 7, ground := Ground.phase }, { on := 8, ground := Ground.phase }, { on := 9, ground := Ground.phase }, { on := 10, ground := Ground.phase }, { on := 11, ground := Ground.phase }, { on := 12, ground := Ground.phase }, { on := 13, ground := Ground.phase }, { on := 14, ground := Ground.phase }, { on := 15, ground := Ground.phase }, { on := 16, ground := Ground.phase }], guard := none }) (v := ?_) rfl (by kernel_rfl) (by kernel_rfl) (by kernel_rfl) (fun _ _ _ h => h) (Or.inl ⟨by rfl, ?_⟩) (by assumption) ?_
              rotate_left
              · intro w hSw; (try dsimp only at hSw); go_simp <;> with_reducible rfl
              try simp only [Act.put, List.setIfInBounds_toArray, List.set_cons_zero, List.set_cons_succ]
              refine wpAnyH_done (by kernel_rfl) ?_ _
              go_wp2_with fail
              go_meet
              exact ⟨rfl, b9, rfl, R9, HU⟩
            refine AllReadyH.cons (o := { dst := some 10, op := Op.alloc 29, type := 0, pos := "laws.go:825", after := #[], guard := none }) rfl (fun K hK => ?_) ?_
            · refine mstep_alloc rfl rfl ?_
              have R9 := hide (new_row VA (.cells (mC zero6) 29))
              have l9 := hide (show Y.heap.size ≤ VA.heap.size from (unhide HU).size)
              replace HU := hide (below_two (unhide HU) (al1_below VA (.cells (mC zero6) 29)))
              generalize VA.alloc (.cells (mC zero6) 29) = VB at HU R9 ⊢
              generalize VA.heap.size = b9 at R9 l9 ⊢
              refine hK.out _ _ ?_ (fun hHeld => ?_)
              · exact unhide hS15 _ (unhide HU)
              clear hK K
              try simp only [Act.put, List.setIfInBounds_toArray, List.set_cons_zero, List.set_cons_succ]
              refine wpAnyH_ready (rs := [11]) (by kernel_rfl) (by simp) ?_
              refine AllReadyH.cons (o := { dst := some 82, op := Op.call { callee := Callee.value (Operand.func 10), args := #[Operand.tmp 79, Operand.tmp 81], argTypes := #[29, 29] }, type := 42, pos := "laws.go:825", after := #[{ on := 8, ground := Ground.data }, { on := 10, ground := Ground.data }, { on := 5, ground := Ground.chain }], guard := none }) rfl (fun K hK => ?_) AllReadyH.nil
              go_simp
              (go_at_call 10; go_fit (implCompose_m M m1 _); rintro r VC ⟨rfl, hb9⟩)
              replace R9 := hide (row_next hb9 (unhide R9))
              replace HU := hide (below_two (unhide HU) hb9)
              clear hb9
              refine hK.out _ _ ?_ (fun hHeld => ?_)
              · exact unhide hS15 _ (unhide HU)
              clear hK K
              try simp only [Act.put, List.setIfInBounds_toArray, List.set_cons_zero, List.set_cons_succ]
              refine wpAnyH_take (i := 12) (oi := { dst := some 70, op := Op.move (Operand.tmp 82), type := 42, pos := "laws.go:825", after := #[{ on := 11, ground := Ground.data }], guard := none }) (v := ?_) rfl (by kernel_rfl) (by kernel_rfl) (by kernel_rfl) (fun _ _ _ h => h) (Or.inl ⟨by rfl, ?_⟩) (by assumption) ?_
              rotate_left
              · intro w hSw; (try dsimp only at hSw); go_simp <;> with_reducible rfl
              try simp only [Act.put, List.setIfInBounds_toArray, List.set_cons_zero, List.set_cons_succ]
              refine wpAnyH_take (i := 13) (oi := { dst := some 83, op := Op.extract (Operand.tmp 70) 0, type := 29, pos := "laws.go:825", after := #[{ on := 12, ground := Ground.data }], guard := none }) (v := ?_) rfl (by kernel_rfl) (by kernel_rfl) (by kernel_rfl) (fun _ _ _ h => h) (Or.inl ⟨by rfl, ?_⟩) (by assumption) ?_
              rotate_left
              · intro w hSw; (try dsimp only at hSw); go_simp <;> with_reducible rfl
              try simp only [Act.put, List.setIfInBounds_toArray, List.set_cons_zero, List.set_cons_succ]
              refine wpAnyH_take (i := 14) (oi := { dst := some 84, op := Op.extract (Operand.tmp 70) 1, type := 4, pos := "laws.go:825", after := #[{ on := 12, ground := Ground.data }, { on := 16, ground := Ground.gcOnly Departure.lateStores }], guard := none }) (v := ?_) rfl (by kernel_rfl) (by kernel_rfl) (by kernel_rfl) (fun _ _ _ h => h) (Or.inl ⟨by rfl, ?_⟩) (by assumption) ?_
              rotate_left
              · intro w hSw; (try dsimp only at hSw); go_simp <;> with_reducible rfl
              try simp only [Act.put, List.setIfInBounds_toArray, List.set_cons_zero, List.set_cons_succ]
              refine wpAnyH_ready (rs := [16]) (by kernel_rfl) (by simp) ?_
              refine AllReadyH.cons (o := { dst := none, op := Op.store 29 (Operand.tmp 10) (Operand.tmp 83), type := 0, pos := "laws.go:825", after := #[{ on := 15, ground := Ground.data }, { on := 13, ground := Ground.data }, { on := 11, ground := Ground.chain }, { on := 0, ground := Ground.phase }, { on := 1, ground := Ground.phase }, { on := 2, ground := Ground.phase }, { on := 3, ground := Ground.phase }, { on := 4, ground := Ground.phase }, { on := 5, ground := Ground.phase }, { on := 6, ground := Ground.phase }, { on := 7, ground := Ground.phase }, { on := 8, ground := Ground.phase }, { on := 9, ground := Ground.phase }, { on := 10, ground := Ground.phase }, { on := 11, ground := Ground.phase }, { on := 12, ground := Ground.phase }, { on := 13, ground := Ground.phase }, { on := 14, ground := Ground.textOnly Departure.lateStores }, { on := 15, ground := Ground.phase }], guard := none }) rfl (fun K hK => ?_) AllReadyH.nil
              refine mstep_store rfl _ _ rfl rfl rfl (unhide R9) ?_
              replace R9 := hide (mrow_set (C := mC (comp6 M m1)) (unhide R9))
              replace HU := hide (below_setRow (unhide HU) (unhide l9) (mC (comp6 M m1)))
              generalize VC.setRow b9 (mC (comp6 M m1)) = WL at R9 HU ⊢
              refine hK.out _ _ ?_ (fun hHeld => ?_)
              · exact unhide hS15 _ (unhide HU)
              clear hK K
              try simp only [Act.put]
              refine wpAnyH_take (i := 17) (oi := { dst := some 11, op := Op.assign (Operand.tmp 84), type := 4, pos := "laws.go:825", after := #[{ on := 14, ground := Ground.data }, { on := 16, ground := Ground.chain }, { on := 0, ground := Ground.phase }, { on := 1, ground := Ground.phase }, { on := 2, ground := Ground.phase }, { on := 3, ground := Ground.phase }, { on := 4, ground := Ground.phase }, { on := 5, ground := Ground.phase }, { on := 6, ground := Ground.phase }, { on := 7, ground := Ground.phase }, { on := 8, ground := Ground.phase }, { on := 9, ground := Ground.phase }, { on := 10, ground := Ground.phase }, { on := 11, ground := Ground.phase }, { on := 12, ground := Ground.phase }, { on := 13, ground := Ground.phase }, { on := 14, ground := Ground.phase }, { on := 15, ground := Ground.phase }, { on := 16, ground := Ground.phase }], guard := none }) (v := ?_) rfl (by kernel_rfl) (by kernel_rfl) (by kernel_rfl) (fun _ _ _ h => h) (Or.inl ⟨by rfl, ?_⟩) (by assumption) ?_
              rotate_left
              · intro w hSw; (try dsimp only at hSw); go_simp <;> with_reducible rfl
              try simp only [Act.put, List.setIfInBounds_toArray, List.set_cons_zero, List.set_cons_succ]
              refine wpAnyH_done (by kernel_rfl) ?_ _
              go_wp2_with fail
              go_meet
              exact ⟨rfl, b9, rfl, R9, HU⟩
            exact AllReadyH.nil
          refine AllReadyH.cons (o := { dst := some 10, op := Op.alloc 29, type := 0, pos := "laws.go:825", after := #[], guard := none }) rfl (fun K hK => ?_) ?_
          · refine mstep_alloc rfl rfl ?_
            have R9 := hide (new_row V8 (.cells (mC zero6) 29))
            have l9 := hide (show Y.heap.size ≤ V8.heap.size from (unhide HU).size)
            replace HU := hide (below_two (unhide HU) (al1_below V8 (.cells (mC zero6) 29)))
            generalize V8.alloc (.cells (mC zero6) 29) = VA at HU R9 ⊢
            generalize V8.heap.size = b9 at R9 l9 ⊢
            refine hK.out _ _ ?_ (fun hHeld => ?_)
            · exact unhide hS15 _ (unhide HU)
            clear hK K
            try simp only [Act.put, List.setIfInBounds_toArray, List.set_cons_zero, List.set_cons_succ]
            refine wpAnyH_ready (rs := [5]) (by kernel_rfl) (by simp) ?_
            refine AllReadyH.cons (o := { dst := some 76, op := Op.call { callee := Callee.value (Operand.func 11), args := #[Operand.tmp 73, Operand.tmp 75], argTypes := #[26, 3] }, type := 3, pos := "laws.go:825", after := #[{ on := 2, ground := Ground.data }, { on := 4, ground := Ground.data }], guard := none }) rfl (fun K hK => ?_) AllReadyH.nil
            go_simp
            (go_at_call 11; go_fit (unhide EAj _ (unhide HU)); rintro r VB ⟨rfl, hb9⟩)
            replace R9 := hide (row_next hb9 (unhide R9))
            replace HU := hide (below_two (unhide HU) hb9)
            clear hb9
            refine hK.out _ _ ?_ (fun hHeld => ?_)
            · exact unhide hS15 _ (unhide HU)
            clear hK K
            try simp only [Act.put, List.setIfInBounds_toArray, List.set_cons_zero, List.set_cons_succ]
            refine wpAnyH_take (i := 6) (oi := { dst := some 77, op := Op.indexAddr 24 (Operand.tmp 72) (Operand.tmp 76), type := 0, pos := "laws.go:825", after := #[{ on := 1, ground := Ground.data }, { on := 5, ground := Ground.data }], guard := none }) (v := ?_) rfl (by kernel_rfl) (by kernel_rfl) (by kernel_rfl) (fun _ _ _ h => h) (Or.inl ⟨by rfl, ?_⟩) (by assumption) ?_
            rotate_left
            · intro w hSw; (try dsimp only at hSw); go_simp <;> with_reducible rfl
            try simp only [Act.put, List.setIfInBounds_toArray, List.set_cons_zero, List.set_cons_succ]
            refine wpAnyH_take (i := 7) (oi := { dst := some 78, op := Op.fieldAddr 41 (Operand.tmp 77) 3, type := 0, pos := "laws.go:825", after := #[{ on := 6, ground := Ground.data }], guard := none }) (v := ?_) rfl (by kernel_rfl) (by kernel_rfl) (by kernel_rfl) (fun _ _ _ h => h) (Or.inl ⟨by rfl, ?_⟩) (by assumption) ?_
            rotate_left
            · intro w hSw; (try dsimp only at hSw); go_simp <;> with_reducible rfl
            try simp only [Act.put, List.setIfInBounds_toArray, List.set_cons_zero, List.set_cons_succ]
            refine wpAnyH_take (i := 8) (oi := { dst := some 79, op := Op.load 29 (Operand.tmp 78), type := 29, pos := "laws.go:825", after := #[{ on := 7, ground := Ground.data }], guard := none }) (v := .agg (mC M)) rfl (by kernel_rfl) (by kernel_rfl) (by kernel_rfl) (fun _ _ _ h => h) (yields_mat rfl _ rfl b (o + j * 31 + 3) rfl M (fun u hu => unhide hRJ u (unhide hu.1))) (by assumption) ?_
            try simp only [Act.put, List.setIfInBounds_toArray, List.set_cons_zero, List.set_cons_succ]
            refine wpAnyH_ready (rs := [11]) (by kernel_rfl) (by simp) ?_
            refine AllReadyH.cons (o := { dst := some 82, op := Op.call { callee := Callee.value (Operand.func 10), args := #[Operand.tmp 79, Operand.tmp 81], argTypes := #[29, 29] }, type := 42, pos := "laws.go:825", after := #[{ on := 8, ground := Ground.data }, { on := 10, ground := Ground.data }, { on := 5, ground := Ground.chain }], guard := none }) rfl (fun K hK => ?_) AllReadyH.nil
            go_simp
            (go_at_call 10; go_fit (implCompose_m M m1 _); rintro r VC ⟨rfl, hb9⟩)
            replace R9 := hide (row_next hb9 (unhide R9))
            replace HU := hide (below_two (unhide HU) hb9)
            clear hb9
            refine hK.out _ _ ?_ (fun hHeld => ?_)
            · exact unhide hS15 _ (unhide HU)
            clear hK K
            try simp only [Act.put, List.setIfInBounds_toArray, List.set_cons_zero, List.set_cons_succ]
            refine wpAnyH_take (i := 12) (oi := { dst := some 70, op := Op.move (Operand.tmp 82), type := 42, pos := "laws.go:825", after := #[{ on := 11, ground := Ground.data }], guard := none }) (v := ?_) rfl (by kernel_rfl) (by kernel_rfl) (by kernel_rfl) (fun _ _ _ h => h) (Or.inl ⟨by rfl, ?_⟩) (by assumption) ?_
            rotate_left
            · intro w hSw; (try dsimp only at hSw); go_simp <;> with_reducible rfl
            try simp only [Act.put, List.setIfInBounds_toArray, List.set_cons_zero, List.set_cons_succ]
            refine wpAnyH_take (i := 13) (oi := { dst := some 83, op := Op.extract (Operand.tmp 70) 0, type := 29, pos := "laws.go:825", after := #[{ on := 12, ground := Ground.data }], guard := none }) (v := ?_) rfl (by kernel_rfl) (by kernel_rfl) (by kernel_rfl) (fun _ _ _ h => h) (Or.inl ⟨by rfl, ?_⟩) (by assumption) ?_
            rotate_left
            · intro w hSw; (try dsimp only at hSw); go_simp <;> with_reducible rfl
            try simp only [Act.put, List.setIfInBounds_toArray, List.set_cons_zero, List.set_cons_succ]
            refine wpAnyH_take (i := 14) (oi := { dst := some 84, op := Op.extract (Operand.tmp 70) 1, type := 4, pos := "laws.go:825", after := #[{ on := 12, ground := Ground.data }, { on := 16, ground := Ground.gcOnly Departure.lateStores }], guard := none }) (v := ?_) rfl (by kernel_rfl) (by kernel_rfl) (by kernel_rfl) (fun _ _ _ h => h) (Or.inl ⟨by rfl, ?_⟩) (by assumption) ?_
            rotate_left
            · intro w hSw; (try dsimp only at hSw); go_simp <;> with_reducible rfl
            try simp only [Act.put, List.setIfInBounds_toArray, List.set_cons_zero, List.set_cons_succ]
            refine wpAnyH_ready (rs := [16]) (by kernel_rfl) (by simp) ?_
            refine AllReadyH.cons (o := { dst := none, op := Op.store 29 (Operand.tmp 10) (Operand.tmp 83), type := 0, pos := "laws.go:825", after := #[{ on := 15, ground := Ground.data }, { on := 13, ground := Ground.data }, { on := 11, ground := Ground.chain }, { on := 0, ground := Ground.phase }, { on := 1, ground := Ground.phase }, { on := 2, ground := Ground.phase }, { on := 3, ground := Ground.phase }, { on := 4, ground := Ground.phase }, { on := 5, ground := Ground.phase }, { on := 6, ground := Ground.phase }, { on := 7, ground := Ground.phase }, { on := 8, ground := Ground.phase }, { on := 9, ground := Ground.phase }, { on := 10, ground := Ground.phase }, { on := 11, ground := Ground.phase }, { on := 12, ground := Ground.phase }, { on := 13, ground := Ground.phase }, { on := 14, ground := Ground.textOnly Departure.lateStores }, { on := 15, ground := Ground.phase }], guard := none }) rfl (fun K hK => ?_) AllReadyH.nil
            refine mstep_store rfl _ _ rfl rfl rfl (unhide R9) ?_
            replace R9 := hide (mrow_set (C := mC (comp6 M m1)) (unhide R9))
            replace HU := hide (below_setRow (unhide HU) (unhide l9) (mC (comp6 M m1)))
            generalize VC.setRow b9 (mC (comp6 M m1)) = WL at R9 HU ⊢
            refine hK.out _ _ ?_ (fun hHeld => ?_)
            · exact unhide hS15 _ (unhide HU)
            clear hK K
            try simp only [Act.put]
            refine wpAnyH_take (i := 17) (oi := { dst := some 11, op := Op.assign (Operand.tmp 84), type := 4, pos := "laws.go:825", after := #[{ on := 14, ground := Ground.data }, { on := 16, ground := Ground.chain }, { on := 0, ground := Ground.phase }, { on := 1, ground := Ground.phase }, { on := 2, ground := Ground.phase }, { on := 3, ground := Ground.phase }, { on := 4, ground := Ground.phase }, { on := 5, ground := Ground.phase }, { on := 6, ground := Ground.phase }, { on := 7, ground := Ground.phase }, { on := 8, ground := Ground.phase }, { on := 9, ground := Ground.phase }, { on := 10, ground := Ground.phase }, { on := 11, ground := Ground.phase }, { on := 12, ground := Ground.phase }, { on := 13, ground := Ground.phase }, { on := 14, ground := Ground.phase }, { on := 15, ground := Ground.phase }, { on := 16, ground := Ground.phase }], guard := none }) (v := ?_) rfl (by kernel_rfl) (by kernel_rfl) (by kernel_rfl) (fun _ _ _ h => h) (Or.inl ⟨by rfl, ?_⟩) (by assumption) ?_
            rotate_left
            · intro w hSw; (try dsimp only at hSw); go_simp <;> with_reducible rfl
            try simp only [Act.put, List.setIfInBounds_toArray, List.set_cons_zero, List.set_cons_succ]
            refine wpAnyH_done (by kernel_rfl) ?_ _
            go_wp2_with fail
            go_meet
            exact ⟨rfl, b9, rfl, R9, HU⟩
          exact AllReadyH.nil
        case rest =>
        obtain ⟨rfl, b10, rfl, R10, HU⟩ := hcut
        replace R6 := hide (row_next (unhide HU) (unhide R6))
        replace B5 := hide (below_two (unhide B5) (unhide HU))
        rw [← unhide e1] at R10
        obtain ⟨r0, r1, r2, r3, r4, r5⟩ := mcells (unhide R6)
        obtain ⟨s0, s1, s2, s3, s4, s5⟩ := mcells (unhide R10)
        rw [← unhide e2]
        have hyy : (y2 != y2) = false := by cases y2 <;> rfl
        clear R5 R10 HU hRJ hR5 hS15 EAj e1 e2
        go_wp2_with fail
        go_roundw
        case rel => exact ⟨k + 1, by omega, by go_num, B5⟩
        case measure => simp [intOf]; omega
    · have hke : k = n := by omega
      subst hke
      have hlt' : ¬ (k : Int) < (k : Int) := by omega
      go_wp2_with fail
      go_fit (unhide EZ _)
      rintro r w12 ⟨rfl, hb⟩
      replace BB := hide (below_two (unhide BB) hb)
      clear hb cc
      go_upto_region 19 with (refine mat_new rfl _ _ rfl _ zero6 rfl rfl rfl ?_)
      replace BB := hide (below_two (unhide BB) (al1_below w12 (.cells (mC zero6) 29)))
      generalize w12.alloc (.cells (mC zero6) 29) = U at BB ⊢
      have cc := unhide RR _ (unhide BB)
      go_wp2_with fail
      go_fit (unhide ESc _ (unhide BB))
      rintro r w13 ⟨rfl, hb⟩
      go_wp2_with fail
      go_ret
      exact ⟨rfl, below_two (unhide HB) (below_two (unhide BB) hb)⟩
end Go.Proofs.Ytdbphpekhmlmdaa
