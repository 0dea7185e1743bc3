/-
  MatS · SceneL · SceneT · SceneQ · SceneE · MatE · OpenAgg · OpenPts · OpenPath · OpenPaint · OpenNode: texts of one claim, in one.
-/
import Derived.Test.YtdbphpekhmlmdaaFnExactMatOfM4
import Derived.Test.YtdbphpekhmlmdaaFnExactMatOfM6
import Derived.Test.YtdbphpekhmlmdaaFnExactMatOfM3
import Derived.Deep.RegionHeld3
import Derived.Deep.DeepCutAuto
import Derived.Deep.DeepFit
import Derived.Test.YtdbphpekhmlmdaaFnExactMatOfM2
import Derived.Test.YtdbphpekhmlmdaaRows
import Derived.ProofKit
import Derived.OpenShut
import Derived.ChangeArms
import Derived.Deep.SlicePairs
import Derived.ChangeSlices
import Derived.Deep.Slices

/-
  The specification's MatOf. (By mati.py.)
-/
namespace Go.Proofs.Ytdbphpekhmlmdaa
open Go.RowKit
set_option linter.unusedVariables false

theorem matM_z {X : Nat → Nd} {n : Nat} (hS : ScOk X n) (f : Nat) (m : M6) : upM X n f 0 m = (m, true) := upM_none (scOk_noZ hS) f m

set_option maxHeartbeats 8000000 in
set_option maxRecDepth 100000 in
theorem specMatOf_any (X : Nat → Nd) (A : Nat → Na) (ao : Option Addr) (n cp : Nat) (hn : n ≤ 1048576) (hs : ∀ i, i < n → (X i).Small) (id : Int) (w : World) (P : ∀ i, i < n → NrAt w ao i (X i) (A i)) :
    Calls Try.prog 8 #[.agg #[.slice ao n cp], .int .i64 id] w fun r w' => r = .returned (.tuple #[.agg (mC (matM X n id).1), .bool (matM X n id).2]) ∧ Below w.heap.size w w' := by
  have E1 := hide (fun u (hu : Below w.heap.size w u) => specSceneOk_any X A ao n cp hn hs u (fun i hi => (P i hi).next hu))
  have E2 := hide (fun z u (hu : Below w.heap.size w u) => specNodeAt_any X A ao n cp hn z u (fun i hi => (P i hi).next hu))
  have hbad := hide (fun (h : sceneOkB X n = false) => matM_bad (id := id) h)
  have hnone := hide (fun (h : firstN X id n < 0) => matM_none (X := X) (n := n) h)
  have hyes := hide (fun (h1 : sceneOkB X n = true) (h : ¬ firstN X id n < 0) => matM_is h1 h)
  obtain ⟨R, hR⟩ : ∃ R, Hid (matM X n id = R) := ⟨_, rfl⟩
  rw [unhide hR] at hbad hnone hyes ⊢
  have NN := hide (fun u (hu : Below w.heap.size w u) i (hi : i < n) => (P i hi).next hu)
  clear P hs hR
  go_enter Try.func8, Try.ntmps8
  go_upto_region 1 with fail
  have R2 := hide (al2_0 w (.cells #[.slice ao n cp] 26) (.cells #[.int .i64 0, .int .i64 0, .int .i64 0, .int .i64 0, .int .i64 0, .int .i64 0] 29))
  have R4 := hide (show ((w.alloc (.cells #[.slice ao n cp] 26)).alloc (.cells #[.int .i64 0, .int .i64 0, .int .i64 0, .int .i64 0, .int .i64 0, .int .i64 0] 29)).heap[w.heap.size + 1]? = some (.cells (mC zero6) 29 (0, 0)) from al2_1 w (.cells #[.slice ao n cp] 26) (.cells #[.int .i64 0, .int .i64 0, .int .i64 0, .int .i64 0, .int .i64 0, .int .i64 0] 29))
  have HB := hide (al2_below w (.cells #[.slice ao n cp] 26) (.cells #[.int .i64 0, .int .i64 0, .int .i64 0, .int .i64 0, .int .i64 0, .int .i64 0] 29))
  have l4 := hide (show w.heap.size + 1 < ((w.alloc (.cells #[.slice ao n cp] 26)).alloc (.cells #[.int .i64 0, .int .i64 0, .int .i64 0, .int .i64 0, .int .i64 0, .int .i64 0] 29)).heap.size by rw [al1_size, al1_size]; omega)
  generalize (w.alloc (.cells #[.slice ao n cp] 26)).alloc (.cells #[.int .i64 0, .int .i64 0, .int .i64 0, .int .i64 0, .int .i64 0, .int .i64 0] 29) = W at R2 R4 HB l4 ⊢
  obtain ⟨b2, hb2⟩ : ∃ b, Hid (b = w.heap.size) := ⟨_, rfl⟩
  rw [← unhide hb2] at R2 R4 ⊢
  have l2 := hide (show w.heap.size ≤ b2 ∧ b2 + 1 < W.heap.size by rw [unhide hb2]; exact ⟨Nat.le_refl _, unhide l4⟩)
  clear hb2 l4
  have c2 := row1 (unhide R2)
  go_wp2_with fail
  go_fit (unhide E1 _ (unhide HB))
  rintro r w1 ⟨rfl, hb⟩
  replace R2 := hide (row_next hb (unhide R2))
  replace R4 := hide (row_next hb (unhide R4))
  replace HB := hide (below_two (unhide HB) hb)
  replace l2 := hide (show w.heap.size ≤ b2 ∧ b2 + 1 < w1.heap.size from ⟨(unhide l2).1, Nat.lt_of_lt_of_le (unhide l2).2 hb.size⟩)
  clear hb c2 E1
  cases hok : sceneOkB X n with
  | false =>
    have hR := hide (unhide hbad hok)
    clear hbad hok hnone hyes
    have HB2 := hide (below_setRow (unhide HB) (show w.heap.size ≤ b2 + 1 by have := unhide l2; omega) (mC zero6))
    have R4s := hide (mrow_set (C := mC zero6) (unhide R4))
    (try go_wp2_with (refine mat_put rfl _ _ rfl (b2 + 1) (mC zero6) zero6 rfl rfl (unhide R4) rfl ?_))
    generalize w1.setRow (b2 + 1) (mC zero6) = W2 at HB2 R4s ⊢
    obtain ⟨c0, c1, c2, c3, c4, c5⟩ := mcells (unhide R4s)
    go_wp2_with fail
    refine bodyPost_ret (v := .tuple #[.agg (mC zero6), .bool false]) (by simp [results, Try.results8, go_sem, c0, c1, c2, c3, c4, c5, mC]) rfl ⟨by rw [unhide hR], ?_⟩
    exact unhide HB2
  | true =>
    have hS := sceneOk_iff.1 hok
    replace hyes := hide (unhide hyes hok)
    clear hok hbad
    obtain ⟨b, o, hao⟩ : ∃ b o, n = 0 ∨ ao = some ⟨b, o, none⟩ := by
      rcases Nat.eq_zero_or_pos n with h0 | h0
      · exact ⟨0, 0, .inl h0⟩
      · obtain ⟨b, o, h, _⟩ := (unhide NN _ (Below.refl _ _) 0 h0).range
        exact ⟨b, o, .inr h⟩
    have c2 := row1 (unhide R2)
    have E3 := hide (unhide E2 id _ (unhide HB))
    obtain ⟨z0, hz0⟩ : ∃ z, Hid (firstN X id n = z) := ⟨_, rfl⟩
    rw [unhide hz0] at E3
    go_wp2_with fail
    go_fit (unhide E3)
    rintro r w2 ⟨rfl, hb⟩
    replace R2 := hide (row_next hb (unhide R2))
    replace R4 := hide (row_next hb (unhide R4))
    replace HB := hide (below_two (unhide HB) hb)
    replace l2 := hide (show w.heap.size ≤ b2 ∧ b2 + 1 < w2.heap.size from ⟨(unhide l2).1, Nat.lt_of_lt_of_le (unhide l2).2 hb.size⟩)
    clear hb c2 E3
    by_cases hz : z0 < 0
    · have hR := hide (unhide hnone (by rw [unhide hz0]; exact hz))
      clear hnone hyes hz0
      have HB2 := hide (below_setRow (unhide HB) (show w.heap.size ≤ b2 + 1 by have := unhide l2; omega) (mC zero6))
      have R4s := hide (mrow_set (C := mC zero6) (unhide R4))
      (try go_wp2_with (refine mat_put rfl _ _ rfl (b2 + 1) (mC zero6) zero6 rfl rfl (unhide R4) rfl ?_))
      generalize w2.setRow (b2 + 1) (mC zero6) = W2 at HB2 R4s ⊢
      obtain ⟨c0, c1, c2, c3, c4, c5⟩ := mcells (unhide R4s)
      go_wp2_with fail
      refine bodyPost_ret (v := .tuple #[.agg (mC zero6), .bool false]) (by simp [results, Try.results8, go_sem, c0, c1, c2, c3, c4, c5, mC]) rfl ⟨by rw [unhide hR], ?_⟩
      exact unhide HB2
    · have hf : ¬ firstN X id n < 0 := by rw [unhide hz0]; exact hz
      have hR := hide (unhide hyes (by omega)).symm
      obtain ⟨k, hk, hfk, hik⟩ := first_lt hf
      have hst := hide (show id = 0 ∨ ∃ j : Nat, j < n ∧ firstN X id n = (j : Int) from .inr ⟨k, hk, hfk⟩)
      rcases hao with h0 | hao
      · omega
      subst hao
      clear hnone hyes hz0 hf hfk hik
      replace hS := hide hS
      go_wp2_with fail
      go_fit (specStill_any _)
      rintro r w3 ⟨rfl, hb⟩
      replace R2 := hide (row_next hb (unhide R2))
      replace R4 := hide (row_next hb (unhide R4))
      replace HB := hide (below_two (unhide HB) hb)
      replace l2 := hide (show w.heap.size ≤ b2 ∧ b2 + 1 < w3.heap.size from ⟨(unhide l2).1, Nat.lt_of_lt_of_le (unhide l2).2 hb.size⟩)
      clear hb
      go_upto_region 4 with (refine mat_new rfl _ _ rfl _ still6 rfl rfl rfl ?_)
      have R6 := hide (new_row w3 (.cells (mC still6) 29))
      replace R2 := hide (row_next (al1_below w3 (.cells (mC still6) 29)) (unhide R2))
      replace R4 := hide (row_next (al1_below w3 (.cells (mC still6) 29)) (unhide R4))
      replace HB := hide (below_two (unhide HB) (al1_below w3 (.cells (mC still6) 29)))
      generalize w3.alloc (.cells (mC still6) 29) = W4 at R2 R4 R6 HB ⊢
      obtain ⟨b6, hb6⟩ : ∃ b, Hid (b = w3.heap.size) := ⟨_, rfl⟩
      rw [← unhide hb6] at R6 ⊢
      have l6 := hide (show w.heap.size ≤ b2 ∧ b2 + 1 < b6 by rw [unhide hb6]; exact unhide l2)
      clear hb6 l2
      go_upto_region 5 with fail
      go_loopw [7, 1] (fun i v u => ∃ (k f : Nat) (z : Int) (m : M6), k + f = 4 ∧ i = .int .i64 (k : Int) ∧ v = .int .i64 z ∧ Hid (upM X n f z m = R) ∧ Hid (z = 0 ∨ ∃ j : Nat, j < n ∧ firstN X z n = (j : Int)) ∧ Hid (u.heap[b2]? = some (.cells #[.slice (some ⟨b, o, none⟩) n cp] 26 (0, 0))) ∧ Hid (u.heap[b2 + 1]? = some (.cells (mC zero6) 29 (0, 0))) ∧ Hid (u.heap[b6]? = some (.cells (mC m) 29 (0, 0))) ∧ Hid (Below w.heap.size w u)) (fun i _ _ => 4 - (intOf i).toNat)
      case atStart => exact ⟨0, 4, id, still6, rfl, rfl, rfl, hR, hst, R2, R4, R6, HB⟩
      case round =>
        clear hR hst R2 R4 R6 HB
        obtain ⟨k, f, z, m, hkf, rfl, rfl, hR, hst, R2, R4, R6, HB⟩ := hrel
        by_cases hend : z = 0 ∨ f = 0
        · have hR' : Hid (R = (m, true)) := by
            rcases hend with h0 | h0
            · rw [← unhide hR, h0]; exact matM_z (unhide hS) f m
            · rw [← unhide hR, h0]; rfl
          have h6 := hide (mat_rng (unhide R6))
          have HB2 := hide (below_setRow (unhide HB) (show w.heap.size ≤ b2 + 1 by have := unhide l6; omega) (mC m))
          have R4s := hide (mrow_set (C := mC m) (unhide R4))
          by_cases h4 : f = 0
          · have hk4 : ¬ ((k : Int) < 4) := by omega
            clear hR hend hst
            (try go_wp2_with (first | with_reducible refine load_mat rfl _ rfl b6 0 rfl m (unhide h6) ?_ | refine mat_put rfl _ _ rfl (b2 + 1) (mC zero6) m rfl rfl (unhide R4) rfl ?_))
            generalize wr.setRow (b2 + 1) (mC m) = W2 at HB2 R4s ⊢
            obtain ⟨c0, c1, c2, c3, c4, c5⟩ := mcells (unhide R4s)
            go_wp2_with fail
            refine bodyPost_ret (v := .tuple #[.agg (mC m), .bool true]) (by simp [results, Try.results8, go_sem, c0, c1, c2, c3, c4, c5, mC]) rfl ⟨by rw [unhide hR'], ?_⟩
            exact unhide HB2
          · have hk4 : (k : Int) < 4 := by omega
            obtain rfl : z = 0 := hend.resolve_right h4
            clear hR hend hst
            (try go_wp2_with (first | with_reducible refine load_mat rfl _ rfl b6 0 rfl m (unhide h6) ?_ | refine mat_put rfl _ _ rfl (b2 + 1) (mC zero6) m rfl rfl (unhide R4) rfl ?_))
            generalize wr.setRow (b2 + 1) (mC m) = W2 at HB2 R4s ⊢
            obtain ⟨c0, c1, c2, c3, c4, c5⟩ := mcells (unhide R4s)
            go_wp2_with fail
            refine bodyPost_ret (v := .tuple #[.agg (mC m), .bool true]) (by simp [results, Try.results8, go_sem, c0, c1, c2, c3, c4, c5, mC]) rfl ⟨by rw [unhide hR'], ?_⟩
            exact unhide HB2
        · have hz0 : z ≠ 0 := fun e => hend (.inl e)
          obtain ⟨g, rfl⟩ : ∃ g, f = g + 1 := ⟨f - 1, by omega⟩
          obtain ⟨j, hj, hfj⟩ := (unhide hst).resolve_left hz0
          have hk4 : (k : Int) < 4 := by omega
          have hzb : (z != 0) = true := by simpa using hz0
          have hRy := hide (fun (hc : comp6k (X j).mat m = true) => (upM_yes hfj (f := g) hc).symm.trans (unhide hR))
          have hRn := hide (fun (hc : comp6k (X j).mat m = false) => (upM_no hfj (f := g) hc).symm.trans (unhide hR))
          have ENA := hide (fun u (hu : Below wr.heap.size wr u) => (unhide E2 z u (below_two (unhide HB) hu)).mono fun r w' h => show r = .returned (.int .i64 (j : Int)) ∧ Below u.heap.size u w' by rw [hfj] at h; exact h)
          have hnx := hide (show (X j).par = 0 ∨ ∃ i : Nat, i < n ∧ firstN X (X j).par n = (i : Int) by
            rcases above (unhide hS) hj with ⟨_, h⟩ | ⟨i, h1, h2, _⟩
            · exact .inl h
            · exact .inr ⟨i, h1, h2⟩)
          have hRX0 := hide (fun u (hu : Below wr.heap.size wr u) => show u.rangeAt b (o + j * 31) (ndC (X j) (A j)).toList by
            obtain ⟨b', o', e, h⟩ := (unhide NN u (below_two (unhide HB) hu) j hj).range
            cases e
            exact h)
          obtain ⟨xx, hxx⟩ : ∃ z, Hid (X j = z) := ⟨_, rfl⟩
          obtain ⟨ss, hss⟩ : ∃ z, Hid (A j = z) := ⟨_, rfl⟩
          rw [unhide hxx, unhide hss] at hRX0
          rw [unhide hxx] at hRy hRn hnx
          have hRX := hRX0
          have hj' : (j : Int) < (n : Int) := by omega
          have hS7 := hide (fun u (hu : Below wr.heap.size wr u) => show Hid (Below wr.heap.size wr u) ∧ u.cell? ⟨b2, 0, none⟩ = some (.slice (some ⟨b, o, none⟩) n cp) from ⟨hu, row1 (row_next hu (unhide R2))⟩)
          clear hR hst hend hfj hxx hss
          go_upto_region 7 with fail
          clear hzb hz0
          go_cut [8] (fun s u => ∃ q, s = .pointer (some ⟨q, 0, none⟩) ∧ Hid (wr.heap.size ≤ q) ∧ Hid (u.heap[q]? = some (.cells (ndC xx ss) 41 (0, 0))) ∧ Hid (Below wr.heap.size wr u))
          case first =>
            refine wp_region_held_drew (S := (fun u => Hid (Below wr.heap.size wr u) ∧ u.cell? ⟨b2, 0, none⟩ = some (.slice (some ⟨b, o, none⟩) n cp))) (by kernel_rfl) ?_ (fun hHeld => ?_)
            · exact unhide hS7 _ (Below.refl _ _).drew
            have HU := hide (show Below wr.heap.size wr wr.drew from (Below.refl _ _).drew)
            generalize wr.drew = V8 at HU hHeld ⊢
            refine wpAnyH_take (i := 0) (oi := { dst := some 30, op := Op.fieldAddr 26 (Operand.tmp 2) 0, type := 0, pos := "l17_shape.go:11", after := #[], guard := none }) (v := ?_) rfl (by kernel_rfl) (by kernel_rfl) (by kernel_rfl) (fun _ _ _ h => h) (Or.inl ⟨by rfl, ?_⟩) (by assumption) ?_
            rotate_left
            · intro w hSw; (try dsimp only at hSw); go_simp <;> with_reducible rfl
            try simp only [Act.put, List.setIfInBounds_toArray, List.set_cons_zero, List.set_cons_succ]
            refine wpAnyH_take (i := 1) (oi := { dst := some 31, op := Op.load 24 (Operand.tmp 30), type := 24, pos := "l17_shape.go:11", after := #[{ on := 0, ground := Ground.data }], guard := none }) (v := ?_) rfl (by kernel_rfl) (by kernel_rfl) (by kernel_rfl) (fun _ _ _ h => h) (Or.inl ⟨by rfl, ?_⟩) (by assumption) ?_
            rotate_left
            · intro w hSw; (try dsimp only at hSw); go_simp <;> with_reducible rfl
            try simp only [Act.put, List.setIfInBounds_toArray, List.set_cons_zero, List.set_cons_succ]
            refine wpAnyH_take (i := 2) (oi := { dst := some 32, op := Op.load 26 (Operand.tmp 2), type := 26, pos := "l17_shape.go:11", after := #[], guard := none }) (v := ?_) rfl (by kernel_rfl) (by kernel_rfl) (by kernel_rfl) (fun _ _ _ h => h) (Or.inl ⟨by rfl, ?_⟩) (by assumption) ?_
            rotate_left
            · intro w hSw; (try dsimp only at hSw); go_simp <;> with_reducible rfl
            try simp only [Act.put, List.setIfInBounds_toArray, List.set_cons_zero, List.set_cons_succ]
            refine wpAnyH_take (i := 3) (oi := { dst := some 33, op := Op.move (Operand.tmp 1), type := 3, pos := "l17_shape.go:11", after := #[], guard := none }) (v := ?_) rfl (by kernel_rfl) (by kernel_rfl) (by kernel_rfl) (fun _ _ _ h => h) (Or.inl ⟨by rfl, ?_⟩) (by assumption) ?_
            rotate_left
            · intro w hSw; (try dsimp only at hSw); go_simp <;> with_reducible rfl
            try simp only [Act.put, List.setIfInBounds_toArray, List.set_cons_zero, List.set_cons_succ]
            refine wpAnyH_ready (rs := [4, 7]) (by kernel_rfl) (by simp) ?_
            refine AllReadyH.cons (o := { dst := some 34, op := Op.call { callee := Callee.value (Operand.func 11), args := #[Operand.tmp 32, Operand.tmp 33], argTypes := #[26, 3] }, type := 3, pos := "l17_shape.go:11", after := #[{ on := 2, ground := Ground.data }, { on := 3, ground := Ground.data }], guard := none }) rfl (fun K hK => ?_) ?_
            · go_simp
              (go_at_call 11; go_fit (unhide ENA _ (unhide HU)); rintro r VA ⟨rfl, hb9⟩)
              replace HU := hide (below_two (unhide HU) hb9)
              clear hb9
              refine hK.out _ _ ?_ (fun hHeld => ?_)
              · exact unhide hS7 _ (unhide HU)
              clear hK K
              try simp only [Act.put, List.setIfInBounds_toArray, List.set_cons_zero, List.set_cons_succ]
              refine wpAnyH_take (i := 5) (oi := { dst := some 35, op := Op.indexAddr 24 (Operand.tmp 31) (Operand.tmp 34), type := 0, pos := "l17_shape.go:11", after := #[{ on := 1, ground := Ground.data }, { on := 4, ground := Ground.data }], guard := none }) (v := ?_) rfl (by kernel_rfl) (by kernel_rfl) (by kernel_rfl) (fun _ _ _ h => h) (Or.inl ⟨by rfl, ?_⟩) (by assumption) ?_
              rotate_left
              · intro w hSw; (try dsimp only at hSw); go_simp <;> with_reducible rfl
              try simp only [Act.put, List.setIfInBounds_toArray, List.set_cons_zero, List.set_cons_succ]
              refine wpAnyH_take (i := 6) (oi := { dst := some 36, op := Op.load 41 (Operand.tmp 35), type := 41, pos := "l17_shape.go:11", after := #[{ on := 5, ground := Ground.data }], guard := none }) (v := .agg (ndC xx ss)) rfl (by kernel_rfl) (by kernel_rfl) (by kernel_rfl) (fun _ _ _ h => h) (yields_inode rfl _ rfl b (o + j * 31) rfl xx ss (fun u hu => unhide hRX u (unhide hu.1))) (by assumption) ?_
              try simp only [Act.put, List.setIfInBounds_toArray, List.set_cons_zero, List.set_cons_succ]
              refine wpAnyH_ready (rs := [7]) (by kernel_rfl) (by simp) ?_
              refine AllReadyH.cons (o := { dst := some 8, op := Op.alloc 41, type := 0, pos := "l17_shape.go:11", after := #[], guard := none }) rfl (fun K hK => ?_) AllReadyH.nil
              refine step_alloc_node rfl rfl (fun Z hZ => ?_)
              have R8 := hide (new_row VA (.cells Z 41))
              have l8 := hide (show wr.heap.size ≤ VA.heap.size from (unhide HU).size)
              replace HU := hide (below_two (unhide HU) (al1_below VA (.cells Z 41)))
              generalize VA.alloc (.cells Z 41) = VB at HU R8 ⊢
              generalize VA.heap.size = b8 at R8 l8 ⊢
              refine hK.out _ _ ?_ (fun hHeld => ?_)
              · exact unhide hS7 _ (unhide HU)
              clear hK K
              try simp only [Act.put, List.setIfInBounds_toArray, List.set_cons_zero, List.set_cons_succ]
              refine wpAnyH_ready (rs := [8]) (by kernel_rfl) (by simp) ?_
              refine AllReadyH.cons (o := { dst := none, op := Op.store 41 (Operand.tmp 8) (Operand.tmp 36), type := 0, pos := "l17_shape.go:11", after := #[{ on := 7, ground := Ground.data }, { on := 6, ground := Ground.data }, { on := 4, ground := Ground.chain }, { on := 0, ground := Ground.phase }, { on := 1, ground := Ground.phase }, { on := 2, ground := Ground.phase }, { on := 3, ground := Ground.phase }, { on := 4, ground := Ground.phase }, { on := 5, ground := Ground.phase }, { on := 6, ground := Ground.phase }, { on := 7, ground := Ground.phase }], guard := none }) rfl (fun K hK => ?_) AllReadyH.nil
              refine step_store_node rfl _ _ rfl rfl rfl (unhide R8) hZ ?_
              replace R8 := hide (mrow_set (C := ndC xx ss) (unhide R8))
              replace HU := hide (below_setRow (unhide HU) (unhide l8) (ndC xx ss))
              generalize VB.setRow b8 (ndC xx ss) = WL at R8 HU ⊢
              refine hK.out _ _ ?_ (fun hHeld => ?_)
              · exact unhide hS7 _ (unhide HU)
              clear hK K
              try simp only [Act.put]
              refine wpAnyH_done (by kernel_rfl) ?_ _
              go_wp2_with fail
              go_meet
              exact ⟨b8, rfl, l8, R8, HU⟩
            refine AllReadyH.cons (o := { dst := some 8, op := Op.alloc 41, type := 0, pos := "l17_shape.go:11", after := #[], guard := none }) rfl (fun K hK => ?_) ?_
            · refine step_alloc_node rfl rfl (fun Z hZ => ?_)
              have R8 := hide (new_row V8 (.cells Z 41))
              have l8 := hide (show wr.heap.size ≤ V8.heap.size from (unhide HU).size)
              replace HU := hide (below_two (unhide HU) (al1_below V8 (.cells Z 41)))
              generalize V8.alloc (.cells Z 41) = VA at HU R8 ⊢
              generalize V8.heap.size = b8 at R8 l8 ⊢
              refine hK.out _ _ ?_ (fun hHeld => ?_)
              · exact unhide hS7 _ (unhide HU)
              clear hK K
              try simp only [Act.put, List.setIfInBounds_toArray, List.set_cons_zero, List.set_cons_succ]
              refine wpAnyH_ready (rs := [4]) (by kernel_rfl) (by simp) ?_
              refine AllReadyH.cons (o := { dst := some 34, op := Op.call { callee := Callee.value (Operand.func 11), args := #[Operand.tmp 32, Operand.tmp 33], argTypes := #[26, 3] }, type := 3, pos := "l17_shape.go:11", after := #[{ on := 2, ground := Ground.data }, { on := 3, ground := Ground.data }], guard := none }) rfl (fun K hK => ?_) AllReadyH.nil
              go_simp
              (go_at_call 11; go_fit (unhide ENA _ (unhide HU)); rintro r VB ⟨rfl, hb9⟩)
              replace R8 := hide (row_next hb9 (unhide R8))
              replace HU := hide (below_two (unhide HU) hb9)
              clear hb9
              refine hK.out _ _ ?_ (fun hHeld => ?_)
              · exact unhide hS7 _ (unhide HU)
              clear hK K
              try simp only [Act.put, List.setIfInBounds_toArray, List.set_cons_zero, List.set_cons_succ]
              refine wpAnyH_take (i := 5) (oi := { dst := some 35, op := Op.indexAddr 24 (Operand.tmp 31) (Operand.tmp 34), type := 0, pos := "l17_shape.go:11", after := #[{ on := 1, ground := Ground.data }, { on := 4, ground := Ground.data }], guard := none }) (v := ?_) rfl (by kernel_rfl) (by kernel_rfl) (by kernel_rfl) (fun _ _ _ h => h) (Or.inl ⟨by rfl, ?_⟩) (by assumption) ?_
              rotate_left
              · intro w hSw; (try dsimp only at hSw); go_simp <;> with_reducible rfl
              try simp only [Act.put, List.setIfInBounds_toArray, List.set_cons_zero, List.set_cons_succ]
              refine wpAnyH_take (i := 6) (oi := { dst := some 36, op := Op.load 41 (Operand.tmp 35), type := 41, pos := "l17_shape.go:11", after := #[{ on := 5, ground := Ground.data }], guard := none }) (v := .agg (ndC xx ss)) rfl (by kernel_rfl) (by kernel_rfl) (by kernel_rfl) (fun _ _ _ h => h) (yields_inode rfl _ rfl b (o + j * 31) rfl xx ss (fun u hu => unhide hRX u (unhide hu.1))) (by assumption) ?_
              try simp only [Act.put, List.setIfInBounds_toArray, List.set_cons_zero, List.set_cons_succ]
              refine wpAnyH_ready (rs := [8]) (by kernel_rfl) (by simp) ?_
              refine AllReadyH.cons (o := { dst := none, op := Op.store 41 (Operand.tmp 8) (Operand.tmp 36), type := 0, pos := "l17_shape.go:11", after := #[{ on := 7, ground := Ground.data }, { on := 6, ground := Ground.data }, { on := 4, ground := Ground.chain }, { on := 0, ground := Ground.phase }, { on := 1, ground := Ground.phase }, { on := 2, ground := Ground.phase }, { on := 3, ground := Ground.phase }, { on := 4, ground := Ground.phase }, { on := 5, ground := Ground.phase }, { on := 6, ground := Ground.phase }, { on := 7, ground := Ground.phase }], guard := none }) rfl (fun K hK => ?_) AllReadyH.nil
              refine step_store_node rfl _ _ rfl rfl rfl (unhide R8) hZ ?_
              replace R8 := hide (mrow_set (C := ndC xx ss) (unhide R8))
              replace HU := hide (below_setRow (unhide HU) (unhide l8) (ndC xx ss))
              generalize VB.setRow b8 (ndC xx ss) = WL at R8 HU ⊢
              refine hK.out _ _ ?_ (fun hHeld => ?_)
              · exact unhide hS7 _ (unhide HU)
              clear hK K
              try simp only [Act.put]
              refine wpAnyH_done (by kernel_rfl) ?_ _
              go_wp2_with fail
              go_meet
              exact ⟨b8, rfl, l8, R8, HU⟩
            exact AllReadyH.nil
          case rest =>
          obtain ⟨b8, rfl, l8, R8, HU⟩ := hcut
          replace R2 := hide (row_next (unhide HU) (unhide R2))
          replace R4 := hide (row_next (unhide HU) (unhide R4))
          replace l8 := hide (show b6 < b8 from Nat.lt_of_lt_of_le (heap_lt (unhide R6)) (unhide l8))
          replace R6 := hide (row_next (unhide HU) (unhide R6))
          replace HB := hide (below_two (unhide HB) (unhide HU))
          clear HU hRX hS7 ENA hRX0
          obtain ⟨M, hM⟩ : ∃ z, Hid (xx.mat = z) := ⟨_, rfl⟩
          rw [unhide hM] at hRy hRn
          have h8 := hide (show wc.rangeAt b8 3 (mC M).toList by
            rw [← unhide hM]
            have h := nd_mat (o := 0) (nd_rng (unhide R8))
            exact h)
          have h6 := hide (mat_rng (unhide R6))
          go_wp2_with (first | with_reducible refine load_mat rfl _ rfl b8 3 rfl M (unhide h8) ?_ | with_reducible refine load_mat rfl _ rfl b6 0 rfl m (unhide h6) ?_)
          go_fit (specCompose_m M m _)
          rintro r w5 ⟨rfl, hb⟩
          replace R2 := hide (row_next hb (unhide R2))
          replace R4 := hide (row_next hb (unhide R4))
          replace R6 := hide (row_next hb (unhide R6))
          replace R8 := hide (row_next hb (unhide R8))
          replace HB := hide (below_two (unhide HB) hb)
          clear hb h8 h6
          go_upto_region 9 with (refine mat_new rfl _ _ rfl _ (comp6 M m) rfl rfl rfl ?_)
          have R9 := hide (new_row w5 (.cells (mC (comp6 M m)) 29))
          have hb := al1_below w5 (.cells (mC (comp6 M m)) 29)
          replace R2 := hide (row_next hb (unhide R2))
          replace R4 := hide (row_next hb (unhide R4))
          replace R6 := hide (row_next hb (unhide R6))
          replace R8 := hide (row_next hb (unhide R8))
          replace HB := hide (below_two (unhide HB) hb)
          clear hb
          generalize w5.alloc (.cells (mC (comp6 M m)) 29) = W5 at R2 R4 R6 R8 R9 HB ⊢
          generalize w5.heap.size = b9 at R9 ⊢
          cases hc : comp6k M m with
          | false =>
            have hR := hide (unhide hRn hc).symm
            clear hRn hRy hc
            have HB2 := hide (below_setRow (unhide HB) (show w.heap.size ≤ b2 + 1 by have := unhide l6; omega) (mC zero6))
            have R4s := hide (mrow_set (C := mC zero6) (unhide R4))
            (try go_wp2_with (refine mat_put rfl _ _ rfl (b2 + 1) (mC zero6) zero6 rfl rfl (unhide R4) rfl ?_))
            generalize W5.setRow (b2 + 1) (mC zero6) = W2 at HB2 R4s ⊢
            obtain ⟨c0, c1, c2, c3, c4, c5⟩ := mcells (unhide R4s)
            go_wp2_with fail
            refine bodyPost_ret (v := .tuple #[.agg (mC zero6), .bool false]) (by simp [results, Try.results8, go_sem, c0, c1, c2, c3, c4, c5, mC]) rfl ⟨by rw [unhide hR], ?_⟩
            exact unhide HB2
          | true =>
            have hR := hide (unhide hRy hc)
            clear hRn hRy hc
            have h9 := hide (mat_rng (unhide R9))
            have HB2 := hide (below_setRow (unhide HB) (show w.heap.size ≤ b6 by have := unhide l6; omega) (mC (comp6 M m)))
            have R6s := hide (mrow_set (C := mC (comp6 M m)) (unhide R6))
            have R2s := hide ((mrow_other (C := mC (comp6 M m)) (u := W5) (show b2 ≠ b6 by have := unhide l6; omega)).trans (unhide R2))
            have R4s := hide ((mrow_other (C := mC (comp6 M m)) (u := W5) (show b2 + 1 ≠ b6 by have := unhide l6; omega)).trans (unhide R4))
            have R8s := hide ((mrow_other (C := mC (comp6 M m)) (u := W5) (show b8 ≠ b6 by have := unhide l8; omega)).trans (unhide R8))
            go_upto_region 12 with (first | with_reducible refine load_mat rfl _ rfl b9 0 rfl (comp6 M m) (unhide h9) ?_ | refine mat_put rfl _ _ rfl b6 (mC m) (comp6 M m) rfl rfl (unhide R6) rfl ?_)
            clear h9 R2 R4 R6 R8 R9 HB
            generalize W5.setRow b6 (mC (comp6 M m)) = W7 at HB2 R6s R2s R4s R8s ⊢
            have cp8 := (nd_heads (unhide R8s)).2
            go_wp2_with fail
            go_roundw
            case rel => exact ⟨k + 1, g, xx.par, _, by omega, by go_num, rfl, hR, hnx, R2s, R4s, R6s, HB2⟩
            case measure => simp [intOf]; omega
end Go.Proofs.Ytdbphpekhmlmdaa

/-
  The laws' own words on scenes: measured, handed over, held against each other.
-/
namespace Go.Proofs.Ytdbphpekhmlmdaa
open Go.RowKit
set_option linter.unusedVariables false

/-- Several cells of a list set, from o on. -/
def setL (xs : List Value) : Nat → List Value → List Value
  | _, [] => xs
  | o, v :: r => setL (xs.set o v) (o + 1) r
theorem setL_len : ∀ (l : List Value) (xs : List Value) (o : Nat), (setL xs o l).length = xs.length
  | [], _, _ => rfl
  | v :: r, xs, o => by unfold setL; rw [setL_len r]; simp
theorem setL_out : ∀ (l : List Value) (xs : List Value) (o q : Nat), q < o ∨ o + l.length ≤ q → (setL xs o l)[q]? = xs[q]?
  | [], _, _, _, _ => rfl
  | v :: r, xs, o, q, h => by
    unfold setL
    rw [setL_out r _ (o + 1) q (by simp at h; omega), List.getElem?_set_ne (by simp at h; omega)]
theorem setL_in : ∀ (l : List Value) (xs : List Value) (o m : Nat), o + l.length ≤ xs.length → m < l.length → (setL xs o l)[o + m]? = l[m]?
  | [], _, _, m, _, h => absurd h (by simp)
  | v :: r, xs, o, 0, h, _ => by
    unfold setL
    simp at h
    rw [setL_out r _ (o + 1) (o + 0) (.inl (by omega))]
    simp [List.getElem?_set]; omega
  | v :: r, xs, o, m + 1, h, hm => by
    unfold setL
    simp at h hm
    rw [show o + (m + 1) = o + 1 + m by omega, setL_in r _ (o + 1) m (by simp; omega) hm]
    simp
theorem own_setMany {base t s g n cap : Nat} : ∀ (l : List Value) {w : World} {o : Nat} {xs : List Value} (_ : w.ownsRow base t s (.slice (some ⟨g, 0, none⟩) n cap) n xs), (w.setCells g o l).ownsRow base t s (.slice (some ⟨g, 0, none⟩) n cap) n (setL xs o l)
  | [], _, _, _, h => h
  | v :: r, _, _, _, h => own_setMany r (h.stored _ _).1

/-- The first k nodes of a row. -/
def NsAt (ys : List Value) (X : Nat → Nd) (A : Nat → Na) (k : Nat) : Prop := ∀ j, j < k → ∀ m v, (ndC (X j) (A j))[m]? = some v → ys[j * 31 + m]? = some v
def upd {α : Type} (f : Nat → α) (k : Nat) (v : α) : Nat → α := fun j => if j = k then v else f j
theorem upd_at {α : Type} (f : Nat → α) (k : Nat) (v : α) : upd f k v k = v := if_pos rfl
theorem upd_ne {α : Type} (f : Nat → α) {k j : Nat} (v : α) (h : j ≠ k) : upd f k v j = f j := if_neg h
theorem NsAt.step {ys : List Value} {X : Nat → Nd} {A : Nat → Na} {k : Nat} (h : NsAt ys X A k) (s : Na) (hl : k * 31 + 31 ≤ ys.length) : NsAt (setL ys (k * 31) (ndC (X k) s).toList) X (upd A k s) (k + 1) := by
  have hz : (ndC (X k) s).toList.length = 31 := rfl
  intro j hj m v hv
  by_cases e : j = k
  · subst e
    rw [upd_at] at hv
    have hm : m < 31 := by
      have := (Array.getElem?_eq_some_iff.1 hv).1
      rwa [ndC_size] at this
    rw [setL_in _ _ _ _ (by rw [hz]; exact hl) (by rw [hz]; exact hm), Array.getElem?_toList]
    exact hv
  · rw [upd_ne _ _ e] at hv
    have hm : m < 31 := by
      have := (Array.getElem?_eq_some_iff.1 hv).1
      rwa [ndC_size] at this
    rw [setL_out _ _ _ _ (.inl (by omega))]
    exact h j (by omega) m v hv
/-- The lists of the first k nodes are one's own, each in a block of its own, behind the row. -/
structure ScN (u : World) (b k : Nat) (X : Nat → Nd) (A : Nat → Na) (K : Nat → Nat → Nat) (lo : Nat → Nat) : Prop where
  own : ∀ j, j < k → NdO u (b + 1) (K j) (X j) (A j)
  five : ∀ j, j < k → Five (K j) (lo j) (lo (j + 1))
  first : b < lo 0
  top : lo k ≤ u.heap.size
theorem ScN.next {u u' : World} {b k : Nat} {X : Nat → Nd} {A : Nat → Na} {K : Nat → Nat → Nat} {lo : Nat → Nat} (h : ScN u b k X A K lo) (hb : Below u.heap.size u u') : ScN u' b k X A K lo :=
  ⟨fun j hj => (h.own j hj).next hb, h.five, h.first, Nat.le_trans h.top hb.size⟩
theorem NdO.sets {w : World} {base b o : Nat} {K : Nat → Nat} {x : Nd} {s : Na} (h : NdO w base K x s) (hb : b < base) (l : List Value) : NdO (w.setCells b o l) base K x s :=
  let ⟨xs, a1, a2⟩ := h.v; let ⟨ys, b1, b2⟩ := h.p; let ⟨zs, c1, c2⟩ := h.d; let ⟨us, d1, d2⟩ := h.cv; let ⟨vs, e1, e2⟩ := h.cp
  ⟨⟨xs, own_sets hb l a1, a2⟩, ⟨ys, own_sets hb l b1, b2⟩, ⟨zs, own_sets hb l c1, c2⟩, ⟨us, own_sets hb l d1, d2⟩, ⟨vs, own_sets hb l e1, e2⟩, h.kv, h.kp, h.kd, h.kcv, h.kcp⟩
theorem ScN.sets {u : World} {b k : Nat} {X : Nat → Nd} {A : Nat → Na} {K : Nat → Nat → Nat} {lo : Nat → Nat} (h : ScN u b k X A K lo) (o : Nat) (l : List Value) : ScN (u.setCells b o l) b k X A K lo :=
  ⟨fun j hj => (h.own j hj).sets (Nat.lt_succ_self _) l, h.five, h.first, by rw [sets_size]; exact h.top⟩
theorem NdO.low {w : World} {base base' : Nat} {K : Nat → Nat} {x : Nd} {s : Na} (h : NdO w base K x s) (hb : base' ≤ base) : NdO w base' K x s :=
  let ⟨xs, a1, a2⟩ := h.v; let ⟨ys, b1, b2⟩ := h.p; let ⟨zs, c1, c2⟩ := h.d; let ⟨us, d1, d2⟩ := h.cv; let ⟨vs, e1, e2⟩ := h.cp
  ⟨⟨xs, own_low a1 hb, a2⟩, ⟨ys, own_low b1 hb, b2⟩, ⟨zs, own_low c1 hb, c2⟩, ⟨us, own_low d1 hb, d2⟩, ⟨vs, own_low e1 hb, e2⟩, h.kv, h.kp, h.kd, h.kcv, h.kcp⟩
theorem ScN.step {u u1 : World} {b k : Nat} {X : Nat → Nd} {A : Nat → Na} {K : Nat → Nat → Nat} {lo : Nat → Nat} (h : ScN u b k X A K lo) (hbu : b < u.heap.size) (hb : Below u.heap.size u u1) {s : Na} {Kn : Nat → Nat} (hn : NdO u1 u.heap.size Kn (X k) s) (h5 : Five Kn u.heap.size u1.heap.size) :
    ScN u1 b (k + 1) X (upd A k s) (upd K k Kn) (upd lo (k + 1) u1.heap.size) := by
  refine ⟨fun j hj => ?_, fun j hj => ?_, ?_, ?_⟩
  · by_cases e : j = k
    · subst e; rw [upd_at, upd_at]; exact hn.low hbu
    · rw [upd_ne _ _ e, upd_ne _ _ e]; exact (h.own j (by omega)).next hb
  · by_cases e : j = k
    · subst e
      rw [upd_at, upd_at, upd_ne _ _ (by omega)]
      exact ⟨fun i hi => ⟨Nat.le_trans h.top (h5.low i hi).1, (h5.low i hi).2⟩, h5.inj⟩
    · rw [upd_ne _ _ e, upd_ne _ _ (by omega), upd_ne _ _ (by omega)]; exact h.five j (by omega)
  · rw [upd_ne _ _ (by omega)]; exact h.first
  · rw [upd_at]; exact Nat.le_refl _
/-- A scene's list of nodes that is one's own, with all its lists. -/
def ScV (w : World) (base : Nat) (a : Option Addr) (n c : Nat) (X : Nat → Nd) (A : Nat → Na) : Prop :=
  ∃ b ys K lo, a = some ⟨b, 0, none⟩ ∧ base ≤ b ∧ w.ownsRow base 41 31 (.slice a n c) n ys ∧ NsAt ys X A n ∧ ScN w b n X A K lo
theorem ScV.next {w u : World} {base n c : Nat} {a : Option Addr} {X : Nat → Nd} {A : Nat → Na} (h : ScV w base a n c X A) (hb : Below w.heap.size w u) : ScV u base a n c X A :=
  let ⟨b, ys, K, lo, h1, h2, h3, h4, h5⟩ := h; ⟨b, ys, K, lo, h1, h2, own_below h3 hb, h4, h5.next hb⟩
theorem ScV.nodes {w : World} {base n c : Nat} {a : Option Addr} {X : Nat → Nd} {A : Nat → Na} (h : ScV w base a n c X A) : ∀ i, i < n → NrAt w a i (X i) (A i) := by
  obtain ⟨b, ys, K, lo, rfl, h2, h3, h4, h5⟩ := h
  intro i hi
  refine ⟨b, 0, rfl, fun j v hv => ?_, (h5.own i hi).inn⟩
  have hj : j < 31 := by
    have := (Array.getElem?_eq_some_iff.1 hv).1
    exact this
  rw [Nat.zero_add, h3.cellAt _ (by omega)]
  exact h4 i hi j v hv
theorem ScV.low {w : World} {base base' n c : Nat} {a : Option Addr} {X : Nat → Nd} {A : Nat → Na} (h : ScV w base a n c X A) (hb : base' ≤ base) : ScV w base' a n c X A :=
  let ⟨b, ys, K, lo, h1, h2, h3, h4, h5⟩ := h; ⟨b, ys, K, lo, h1, Nat.le_trans hb h2, own_low h3 hb, h4, h5⟩

def sumT (X : Nat → Nd) : Nat → Nat
  | 0 => 0
  | k + 1 => sumT X k + (X k).tot
theorem sumT_le (X : Nat → Nd) {i : Nat} : ∀ {n : Nat}, i < n → (X i).tot + sumT X i ≤ sumT X n
  | 0, h => absurd h (by omega)
  | n + 1, h => by
    by_cases e : i = n
    · subst e; show (X i).tot + sumT X i ≤ sumT X i + (X i).tot; omega
    · have := sumT_le X (i := i) (n := n) (by omega); show _ ≤ sumT X n + (X n).tot; omega
theorem sumT_mono (X : Nat → Nd) {i : Nat} : ∀ {n : Nat}, i ≤ n → sumT X i ≤ sumT X n
  | 0, h => by obtain rfl : i = 0 := by omega
               exact Nat.le_refl _
  | n + 1, h => by
    by_cases e : i = n + 1
    · subst e; exact Nat.le_refl _
    · have := sumT_mono X (i := i) (n := n) (by omega); show _ ≤ sumT X n + (X n).tot; omega
/-- How much a scene takes. -/
def scT (X : Nat → Nd) (n : Nat) : Nat := n + sumT X n
theorem lnode_size : (Try.prog.info? 94).map (·.size) = some 31 := by kernel_rfl
theorem load_lnode {ops : Array Oper} {rest : List Oper} {op : Oper} {a : Act} {w : World} {Q : Exit → Act → World → Prop} (hgd : op.guard = none) (y : Operand) (ho : op.op = .load 94 y)
    (b o : Nat) (hx : a.eval y = .pointer (some ⟨b, o, none⟩)) (x : Nd) (s : Na) (hc : w.rangeAt b o (ndC x s).toList)
    (h : wpList Try.prog ops Q rest (a.put op.dst (.agg (ndC x s))) w) : wpList Try.prog ops Q (op :: rest) a w :=
  wpList_load_mid hgd 94 y ho b o hx (ndC x s).toList _ hc Try.underlying94 rfl (by rw [Array.length_toList, ndC_size]; exact lnode_size) (by rw [Array.toArray_toList]; exact h)

set_option maxHeartbeats 4000000 in
set_option maxRecDepth 100000 in
theorem szNodeS_any (X : Nat → Nd) (A : Nat → Na) (ao : Option Addr) (n cp : Nat) (hm : n ≤ maxLen) (hf : ∀ i, i < n → (X i).Fit) (w : World) (P : ∀ i, i < n → NrAt w ao i (X i) (A i)) :
    Calls Try.prog 30 #[.slice ao n cp, .int .i64 1048576] w fun r w' => r = .returned (.int .i64 (if 1048576 < scT X n then -1 else 1048576 - (scT X n : Int))) ∧ Below w.heap.size w w' := by
  have hw : IntKind.i64.wrap (1048576 - (n : Int)) = 1048576 - n := IntWalk.i64_in _ (by unfold maxLen at hm; omega)
  obtain ⟨V, hV⟩ : ∃ V, Hid ((if 1048576 < scT X n then -1 else 1048576 - (scT X n : Int)) = V) := ⟨_, rfl⟩
  rw [unhide hV]
  replace P := hide P
  replace hf := hide hf
  by_cases hn : n ≤ 1048576
  rotate_left
  · have hneg : 1048576 - (n : Int) < 0 := by omega
    have hq := hide (show V = -1 by rw [← unhide hV, if_pos (by unfold scT; omega)])
    go_enter Try.func30, Try.ntmps30
    go_wp2_with fail
    go_ret
    exact ⟨by rw [unhide hq]; rfl, Below.refl _ _⟩
  have hneg : ¬ 1048576 - (n : Int) < 0 := by omega
  go_enter Try.func30, Try.ntmps30
  go_upto_region 5 with fail
  go_loopw [1, 5] (fun l i u => ∃ k : Nat, k ≤ n ∧ i = .int .i64 (k : Int) ∧ l = .int .i64 (1048576 - (n : Int) - (sumT X k : Int)) ∧ Hid (0 ≤ 1048576 - (n : Int) - (sumT X k : Int)) ∧ Hid (Below w.heap.size w u)) (fun _ i _ => n - (intOf i).toNat)
  case atStart => exact ⟨0, Nat.zero_le _, rfl, by show _ = Value.int .i64 (1048576 - (n : Int) - ((0 : Nat) : Int)); congr 1; omega, by unfold Hid sumT; omega, Below.refl _ _⟩
  case round =>
    obtain ⟨k, hk, rfl, rfl, H0, HB⟩ := hrel
    by_cases hkn : k < n
    · have hki : (k : Int) < (n : Int) := by omega
      have HP := hide ((unhide P k hkn).next (unhide HB))
      obtain ⟨b, o, hao, hrg⟩ := (unhide HP).range
      replace hrg := hide hrg
      subst hao
      obtain ⟨z, hz⟩ : ∃ z, Hid (1048576 - (n : Int) - (sumT X k : Int) = z) := ⟨_, rfl⟩
      rw [unhide hz] at H0 ⊢
      have E := hide (szNode_any (X k) (A k) (unhide hf k hkn) z ⟨unhide H0, by have := unhide hz; omega⟩)
      go_wp2_with (refine load_lnode rfl _ rfl b (o + k * 31) rfl (X k) (A k) (unhide hrg) ?_)
      go_fit (unhide E _)
      rintro r u1 ⟨rfl, hb⟩
      replace HB := hide (below_two (unhide HB) hb)
      clear hb hrg HP E
      by_cases ht : z < ((X k).tot : Int)
      · rw [if_pos ht]
        have hq := hide (show V = -1 by
          have h1 := sumT_le X hkn
          have h2 := unhide hz
          rw [← unhide hV, if_pos (by unfold scT; omega)])
        go_wp2_with fail
        go_ret
        exact ⟨by rw [unhide hq]; rfl, unhide HB⟩
      · rw [if_neg ht]
        have hge : ¬ z - ((X k).tot : Int) < 0 := by omega
        have hnx := hide (show z - ((X k).tot : Int) = 1048576 - (n : Int) - (sumT X (k + 1) : Int) by
          have h2 := unhide hz
          show _ = 1048576 - (n : Int) - ((sumT X k + (X k).tot : Nat) : Int)
          omega)
        go_wp2_with fail
        go_roundw
        case rel => exact ⟨k + 1, by omega, by go_num, by rw [unhide hnx], by unfold Hid; rw [← unhide hnx]; omega, HB⟩
        case measure => simp [intOf]; omega
    · have hke : k = n := by omega
      subst hke
      have hki : ¬ (k : Int) < (k : Int) := by omega
      have hq := hide (show 1048576 - (k : Int) - (sumT X k : Int) = V by
        have := unhide H0
        rw [← unhide hV, if_neg (by unfold scT; omega)]
        unfold scT
        omega)
      rw [unhide hq]
      go_wp2_with fail
      go_ret
      exact ⟨rfl, unhide HB⟩
end Go.Proofs.Ytdbphpekhmlmdaa

/-
  The laws' toScene: a scene of one's own; scenes held against each other.
-/
namespace Go.Proofs.Ytdbphpekhmlmdaa
open Go.RowKit
set_option linter.unusedVariables false

/-- A whole node into the middle of a row. -/
theorem store_node {ops : Array Oper} {rest : List Oper} {op : Oper} {a : Act} {w : World} {Q : Exit → Act → World → Prop} (hgd : op.guard = none) (y z : Operand) (ho : op.op = .store 41 y z)
    (b o : Nat) (x : Nd) (s : Na) (hx : a.eval y = .pointer (some ⟨b, o, none⟩)) (hy : a.eval z = .agg (ndC x s)) (ht : w.there b o 31)
    (h : wpList Try.prog ops Q rest (a.put op.dst undef) (w.setCells b o (ndC x s).toList)) : wpList Try.prog ops Q (op :: rest) a w :=
  wpList_store_mid hgd 41 y z ho b o (ndC x s) hx hy (by rw [ndC_size]; exact ht) (ndC_info x s) (ndC_one x s) h
theorem own_there {w : World} {base t g n cap k : Nat} {xs : List Value} (h : w.ownsRow base t 31 (.slice (some ⟨g, 0, none⟩) n cap) n xs) (hk : k < n) : w.there g (k * 31) 31 := fun j hj => by
  have hl := h.1
  refine ⟨?_, h.frozenAt _⟩
  rw [h.cellAt _ (by omega), List.getElem?_eq_getElem (by omega)]
  rfl

set_option maxHeartbeats 4000000 in
set_option maxRecDepth 100000 in
theorem toNodeS_own (X : Nat → Nd) (A : Nat → Na) (ao : Option Addr) (n cp : Nat) (hn : n ≤ 1048576) (hs : ∀ i, i < n → (X i).Small) (w : World) (P : ∀ i, i < n → NrAt w ao i (X i) (A i)) :
    Calls Try.prog 31 #[.slice ao n cp] w fun r w' => r = .returned (.slice (some ⟨w.heap.size, 0, none⟩) n n) ∧ (∃ A', ScV w' w.heap.size (some ⟨w.heap.size, 0, none⟩) n n X A') ∧ Below w.heap.size w w' := by
  obtain ⟨i0, hi, hz0, hz1, hz2⟩ := info_parts infoNode
  replace P := hide P
  replace hs := hide hs
  go_enter Try.func31, Try.ntmps31
  go_wp2_with (at_make; go_must (refine wpList_make_full w rfl _ _ 24 rfl w.heap.size 41 i0 (.agg ndZ) 31 Try.underlying24 hi hz0 hz1 .i64 .i64 _ _ n (by rfl) (by rfl) (by omega) (by omega) (by rw [hz2]; omega) (by unfold maxLen; omega) (Nat.le_refl _) ?_); intro w1 hown1 hg1)
  have B1 : Below w.heap.size w w1 := (Below.refl _ w).grown hg1 (Nat.le_refl _) (by simp)
  clear hg1
  obtain ⟨b, hb0⟩ : ∃ b, Hid (b = w.heap.size) := ⟨_, rfl⟩
  have hbl := hide (show w.heap.size ≤ b by rw [unhide hb0]; exact Nat.le_refl _)
  rw [← unhide hb0] at hown1 ⊢
  have hsz := hide (show b < w1.heap.size from (hown1.lt b rfl).2)
  rw [unhide hb0] at hown1
  rw [← unhide hb0] at hown1
  go_loopw [4] (fun i u => ∃ (k : Nat) (xs : List Value) (A' : Nat → Na) (K : Nat → Nat → Nat) (lo : Nat → Nat), k ≤ n ∧ i = .int .i64 k ∧ Hid (u.ownsRow b 41 31 (.slice (some ⟨b, 0, none⟩) n n) n xs) ∧ Hid (NsAt xs X A' k) ∧ Hid (ScN u b k X A' K lo) ∧ Hid (Below w.heap.size w u)) (fun i _ => n - (intOf i).toNat)
  case atStart => exact ⟨0, _, A, fun _ _ => 0, fun _ => b + 1, Nat.zero_le _, rfl, hown1, fun j hj => absurd hj (by omega), ⟨fun j hj => absurd hj (by omega), fun j hj => absurd hj (by omega), Nat.lt_succ_self _, unhide hsz⟩, B1⟩
  case round =>
    obtain ⟨k, xs, A', K, lo, hk, rfl, O, HX, HS, HB⟩ := hrel
    clear hown1 B1 hsz
    by_cases hlt : k < n
    · have hki : (k : Int) < (n : Int) := by omega
      have HP := hide ((unhide P k hlt).next (unhide HB))
      obtain ⟨bb, o, hao, hrg⟩ := (unhide HP).range
      replace hrg := hide hrg
      subst hao
      have E := hide (toNode_own (X k) (A k) (unhide hs k hlt) wr (unhide HP).inn)
      go_wp2_with (refine load_lnode rfl _ rfl bb (o + k * 31) rfl (X k) (A k) (unhide hrg) ?_)
      go_fit (unhide E)
      rintro r u1 ⟨s', Kn, rfl, hO, h5, hb⟩
      have hbu := hide (show b < wr.heap.size from ((unhide O).lt b rfl).2)
      replace HS := hide ((unhide HS).step (unhide hbu) hb hO h5)
      replace O := hide (own_below (unhide O) hb)
      replace HB := hide (below_two (unhide HB) hb)
      clear hb hO h5 hrg HP E hbu
      have hth := hide (own_there (unhide O) hlt)
      have hst := hide ((unhide HX).step s' (by have := (unhide O).1; omega))
      go_wp2_with (with_reducible refine store_node rfl _ _ rfl b (k * 31) (X k) s' rfl rfl (unhide hth) ?_)
      go_roundw
      case rel => exact ⟨k + 1, _, _, _, _, by omega, by go_num, own_setMany _ (unhide O), hst, (unhide HS).sets _ _, below_sets (unhide hbl) _ (unhide HB)⟩
      case measure => simp [intOf]; omega
    · have hke : k = n := by omega
      subst hke
      have hki : ¬ (k : Int) < (k : Int) := by omega
      go_wp2_with fail
      go_ret
      exact ⟨by rw [← unhide hb0]; rfl, ⟨A', by rw [← unhide hb0]; exact ⟨b, xs, K, lo, rfl, Nat.le_refl _, unhide O, unhide HX, unhide HS⟩⟩, unhide HB⟩

set_option maxHeartbeats 2000000 in
theorem szScene_any (X : Nat → Nd) (A : Nat → Na) (ao : Option Addr) (n cp : Nat) (hm : n ≤ maxLen) (hf : ∀ i, i < n → (X i).Fit) (w : World) (P : ∀ i, i < n → NrAt w ao i (X i) (A i)) :
    Calls Try.prog 13 #[.agg #[.slice ao n cp], .int .i64 1048576] w fun r w' => r = .returned (.int .i64 (if 1048576 < scT X n then -1 else 1048576 - (scT X n : Int))) ∧ Below w.heap.size w w' := by
  replace P := hide P
  have E := hide (fun u => szNodeS_any X A ao n cp hm hf u)
  go_enter Try.func13, Try.ntmps13
  go_upto_region 1 with fail
  have R := hide (new_row w (.cells #[.slice ao n cp] 49))
  have HB := hide (al1_below w (.cells #[.slice ao n cp] 49))
  generalize w.alloc (.cells #[.slice ao n cp] 49) = W at R HB ⊢
  obtain ⟨b1, hb1⟩ : ∃ b, Hid (b = w.heap.size) := ⟨_, rfl⟩
  rw [← unhide hb1] at R ⊢
  have c0 := row1 (unhide R)
  have F := hide (unhide E W (fun i hi => (unhide P i hi).next (unhide HB)))
  go_wp2_with fail
  go_fit (unhide F)
  rintro r w1 ⟨rfl, hb⟩
  replace HB := hide (below_two (unhide HB) hb)
  clear hb c0 F
  by_cases h : 1048576 < scT X n
  · rw [if_pos h]
    go_wp2_with fail
    go_ret
    exact ⟨rfl, unhide HB⟩
  · rw [if_neg h]
    have h0 : ¬ 1048576 - (scT X n : Int) < 0 := by omega
    go_wp2_with fail
    go_ret
    exact ⟨rfl, unhide HB⟩

theorem NdO.setc {w : World} {base b j : Nat} {K : Nat → Nat} {x : Nd} {s : Na} {v : Value} (h : NdO w base K x s) (hb : b < base) : NdO (w.setCell ⟨b, j, none⟩ v) base K x s :=
  let ⟨xs, a1, a2⟩ := h.v; let ⟨ys, b1, b2⟩ := h.p; let ⟨zs, c1, c2⟩ := h.d; let ⟨us, d1, d2⟩ := h.cv; let ⟨vs, e1, e2⟩ := h.cp
  ⟨⟨xs, own_setc a1 hb, a2⟩, ⟨ys, own_setc b1 hb, b2⟩, ⟨zs, own_setc c1 hb, c2⟩, ⟨us, own_setc d1 hb, d2⟩, ⟨vs, own_setc e1 hb, e2⟩, h.kv, h.kp, h.kd, h.kcv, h.kcp⟩
theorem ScV.setc {w : World} {base b j n c : Nat} {a : Option Addr} {X : Nat → Nd} {A : Nat → Na} {v : Value} (h : ScV w base a n c X A) (hb : b < base) : ScV (w.setCell ⟨b, j, none⟩ v) base a n c X A :=
  let ⟨q, ys, K, lo, h1, h2, h3, h4, h5⟩ := h; ⟨q, ys, K, lo, h1, h2, own_setc h3 hb, h4, fun i hi => (h5.own i hi).setc (by omega), h5.five, h5.first, by simpa [World.setCell] using h5.top⟩

set_option maxHeartbeats 4000000 in
set_option maxRecDepth 100000 in
theorem toScene_own (X : Nat → Nd) (A : Nat → Na) (ao : Option Addr) (n cp : Nat) (hn : n ≤ 1048576) (hs : ∀ i, i < n → (X i).Small) (w : World) (P : ∀ i, i < n → NrAt w ao i (X i) (A i)) :
    Calls Try.prog 14 #[.agg #[.slice ao n cp]] w fun r w' => ∃ a A', r = .returned (.agg #[.slice a n n]) ∧ ScV w' w.heap.size a n n X A' ∧ Below w.heap.size w w' := by
  replace P := hide P
  have E := hide (fun u => toNodeS_own X A ao n cp hn hs u)
  go_enter Try.func14, Try.ntmps14
  go_upto_region 2 with fail
  have R0 := hide (al3_0 w (.cells #[.slice ao n cp] 49) (.cells #[.slice none 0 0] 26) (.cells #[.slice none 0 0] 26))
  have R1 := hide (al3_1 w (.cells #[.slice ao n cp] 49) (.cells #[.slice none 0 0] 26) (.cells #[.slice none 0 0] 26))
  have R2 := hide (al3_2 w (.cells #[.slice ao n cp] 49) (.cells #[.slice none 0 0] 26) (.cells #[.slice none 0 0] 26))
  have HB := hide (al3_below w (.cells #[.slice ao n cp] 49) (.cells #[.slice none 0 0] 26) (.cells #[.slice none 0 0] 26))
  obtain ⟨b2, hb2⟩ : ∃ b, Hid (b = w.heap.size + 1 + 1) := ⟨_, rfl⟩
  obtain ⟨b1, hb1⟩ : ∃ b, Hid (b = w.heap.size + 1) := ⟨_, rfl⟩
  obtain ⟨b0, hb0⟩ : ∃ b, Hid (b = w.heap.size) := ⟨_, rfl⟩
  rw [← unhide hb2] at R2
  rw [← unhide hb1] at R1
  rw [← unhide hb0] at R0
  rw [← unhide hb2, ← unhide hb1, ← unhide hb0]
  have hne : Hid (b1 ≠ b2 ∧ w.heap.size ≤ b2 ∧ w.heap.size ≤ b1) := by unfold Hid; rw [unhide hb2, unhide hb1]; omega
  clear hb2 hb1 hb0
  generalize ((w.alloc (.cells #[.slice ao n cp] 49)).alloc (.cells #[.slice none 0 0] 26)).alloc (.cells #[.slice none 0 0] 26) = W at R0 R1 R2 HB ⊢
  have c0 := row1 (unhide R0)
  have F := hide (unhide E W (fun i hi => (unhide P i hi).next (unhide HB)))
  go_wp2_with fail
  go_fit (unhide F)
  rintro r w1 ⟨rfl, ⟨A', hV⟩, hb⟩
  have l1 := hide (show b1 < W.heap.size from heap_lt (unhide R1))
  have l2 := hide (show b2 < W.heap.size from heap_lt (unhide R2))
  have lw := hide (show w.heap.size ≤ W.heap.size from (unhide HB).size)
  replace R1 := hide (row_next hb (unhide R1))
  replace R2 := hide (row_next hb (unhide R2))
  replace HB := hide (below_two (unhide HB) hb)
  replace hV := hide hV
  clear hb c0 F R0
  generalize W.heap.size = b at hV l1 l2 lw ⊢
  have d0 := row1 (unhide R1)
  have e0 := row1 (unhide R2)
  have f1 := frozen_of_row w1 b1 0 _ _ (unhide R1)
  have f2 := frozen_of_row w1 b2 0 _ _ (unhide R2)
  have n1 : ¬ b1 = b2 := (unhide hne).1
  have n2 : ¬ b2 = b1 := fun e => (unhide hne).1 e.symm
  go_wp2_with fail
  refine bodyPost_ret (v := .agg #[.slice (some ⟨b, 0, none⟩) n n]) (by simp [results, Try.results14, go_sem, d0]) rfl ⟨_, A', rfl, ?_, ?_⟩
  · exact (((unhide hV).setc (unhide l2)).setc (unhide l1)).low (unhide lw)
  · exact ((unhide HB).setCell (p := ⟨b2, 0, none⟩) (unhide hne).2.1 _).setCell (p := ⟨b1, 0, none⟩) (unhide hne).2.2 _
end Go.Proofs.Ytdbphpekhmlmdaa

/-
  Scenes held against each other. (By sceneq.py.)
-/
namespace Go.Proofs.Ytdbphpekhmlmdaa
open Go.RowKit
set_option linter.unusedVariables false

theorem yields_node {ops : Array Oper} {S : World → Prop} {op : Oper} {a : Act} (hw : Region.wanted op (yielded ops a.tmps) = true) (y : Operand) (ho : op.op = .load 41 y)
    (b o : Nat) (hx : a.eval y = .pointer (some ⟨b, o, none⟩)) (x : Nd) (s : Na) (hS : ∀ w, S w → w.rangeAt b o (ndC x s).toList) : YieldsIf Try.prog ops S op (.agg (ndC x s)) a := by
  have h := yieldsIf_load_mid (P := Try.prog) hw 41 y ho b o hx (ndC x s).toList _ hS Try.underlying41 rfl (ndC_infoL x s)
  rwa [Array.toArray_toList] at h
theorem range_next {w u : World} {b o : Nat} {cs : List Value} (h : w.rangeAt b o cs) (hb : Below w.heap.size w u) : u.rangeAt b o cs := fun j v hv => kc hb (h j v hv)

set_option maxHeartbeats 4000000 in
set_option maxRecDepth 100000 in
theorem eqNodeS_same (X : Nat → Nd) (A A' : Nat → Na) (ao bo : Option Addr) (n cp cp' : Nat) (hn : n ≤ 1048576) (hs : ∀ i, i < n → (X i).Small) (w : World) (P : ∀ i, i < n → NrAt w ao i (X i) (A i)) (P' : ∀ i, i < n → NrAt w bo i (X i) (A' i)) :
    Calls Try.prog 32 #[.slice ao n cp, .slice bo n cp'] w fun r w' => r = .returned (.bool true) ∧ Below w.heap.size w w' := by
  replace P := hide P
  replace P' := hide P'
  replace hs := hide hs
  go_enter Try.func32, Try.ntmps32
  go_upto_region 4 with fail
  go_loopw [5] (fun i u => ∃ k : Nat, k ≤ n ∧ i = .int .i64 (k : Int) ∧ Hid (Below w.heap.size w u)) (fun i _ => n - (intOf i).toNat)
  case atStart => exact ⟨0, Nat.zero_le _, rfl, Below.refl _ _⟩
  case round =>
    obtain ⟨k, hk, rfl, HB⟩ := hrel
    by_cases hlt : k < n
    · have hki : (k : Int) < (n : Int) := by omega
      obtain ⟨b, o, hao, hrg⟩ := ((unhide P k hlt).next (unhide HB)).range
      obtain ⟨b', o', hao', hrg'⟩ := ((unhide P' k hlt).next (unhide HB)).range
      have HN := hide ((unhide P k hlt).next (unhide HB)).inn
      have HN' := hide ((unhide P' k hlt).next (unhide HB)).inn
      replace hrg := hide hrg
      replace hrg' := hide hrg'
      subst hao
      subst hao'
      have E := hide (eqNode_same (X k) (A k) (A' k) (unhide hs k hlt) wr.drew ((unhide HN).next (Below.refl _ _).drew) ((unhide HN').next (Below.refl _ _).drew))
      have hkeep : ∀ u, Below wr.drew.heap.size wr.drew u → (u.rangeAt b (o + k * 31) (ndC (X k) (A k)).toList ∧ u.rangeAt b' (o' + k * 31) (ndC (X k) (A' k)).toList) := fun u h => ⟨range_next (unhide hrg) (below_undrew h), range_next (unhide hrg') (below_undrew h)⟩
      go_upto_region 6 with fail
      refine wp_region_held_drew (S := (fun u => u.rangeAt b (o + k * 31) (ndC (X k) (A k)).toList ∧ u.rangeAt b' (o' + k * 31) (ndC (X k) (A' k)).toList)) (by kernel_rfl) ?_ (fun hHeld => ?_)
      · exact ⟨unhide hrg, unhide hrg'⟩
      refine wpAnyH_take (i := 0) (oi := { dst := some 17, op := Op.move (Operand.tmp 0), type := 24, pos := "exact.go:846", after := #[], guard := none }) (v := ?_) rfl (by kernel_rfl) (by kernel_rfl) (by kernel_rfl) (fun _ _ _ h => h) (Or.inl ⟨by rfl, ?_⟩) (by assumption) ?_
      rotate_left
      · intro w hSw; (try dsimp only at hSw); go_simp <;> with_reducible rfl
      try simp only [Act.put, List.setIfInBounds_toArray, List.set_cons_zero, List.set_cons_succ]
      refine wpAnyH_take (i := 1) (oi := { dst := some 18, op := Op.move (Operand.tmp 5), type := 3, pos := "exact.go:846", after := #[], guard := none }) (v := ?_) rfl (by kernel_rfl) (by kernel_rfl) (by kernel_rfl) (fun _ _ _ h => h) (Or.inl ⟨by rfl, ?_⟩) (by assumption) ?_
      rotate_left
      · intro w hSw; (try dsimp only at hSw); go_simp <;> with_reducible rfl
      try simp only [Act.put, List.setIfInBounds_toArray, List.set_cons_zero, List.set_cons_succ]
      refine wpAnyH_take (i := 2) (oi := { dst := some 19, op := Op.indexAddr 24 (Operand.tmp 17) (Operand.tmp 18), type := 0, pos := "exact.go:846", after := #[{ on := 0, ground := Ground.data }, { on := 1, ground := Ground.data }], guard := none }) (v := ?_) rfl (by kernel_rfl) (by kernel_rfl) (by kernel_rfl) (fun _ _ _ h => h) (Or.inl ⟨by rfl, ?_⟩) (by assumption) ?_
      rotate_left
      · intro w hSw; (try dsimp only at hSw); go_simp <;> with_reducible rfl
      try simp only [Act.put, List.setIfInBounds_toArray, List.set_cons_zero, List.set_cons_succ]
      refine wpAnyH_take (i := 3) (oi := { dst := some 20, op := Op.load 41 (Operand.tmp 19), type := 41, pos := "exact.go:846", after := #[{ on := 2, ground := Ground.data }], guard := none }) (v := .agg (ndC (X k) (A k))) rfl (by kernel_rfl) (by kernel_rfl) (by kernel_rfl) (fun _ _ _ h => h) (yields_node (by rfl) _ rfl b (o + k * 31) rfl (X k) (A k) (fun w h => h.1)) (by assumption) ?_
      try simp only [Act.put, List.setIfInBounds_toArray, List.set_cons_zero, List.set_cons_succ]
      refine wpAnyH_take (i := 4) (oi := { dst := some 21, op := Op.move (Operand.tmp 1), type := 24, pos := "exact.go:846", after := #[], guard := none }) (v := ?_) rfl (by kernel_rfl) (by kernel_rfl) (by kernel_rfl) (fun _ _ _ h => h) (Or.inl ⟨by rfl, ?_⟩) (by assumption) ?_
      rotate_left
      · intro w hSw; (try dsimp only at hSw); go_simp <;> with_reducible rfl
      try simp only [Act.put, List.setIfInBounds_toArray, List.set_cons_zero, List.set_cons_succ]
      refine wpAnyH_take (i := 5) (oi := { dst := some 22, op := Op.move (Operand.tmp 5), type := 3, pos := "exact.go:846", after := #[], guard := none }) (v := ?_) rfl (by kernel_rfl) (by kernel_rfl) (by kernel_rfl) (fun _ _ _ h => h) (Or.inl ⟨by rfl, ?_⟩) (by assumption) ?_
      rotate_left
      · intro w hSw; (try dsimp only at hSw); go_simp <;> with_reducible rfl
      try simp only [Act.put, List.setIfInBounds_toArray, List.set_cons_zero, List.set_cons_succ]
      refine wpAnyH_take (i := 6) (oi := { dst := some 23, op := Op.indexAddr 24 (Operand.tmp 21) (Operand.tmp 22), type := 0, pos := "exact.go:846", after := #[{ on := 4, ground := Ground.data }, { on := 5, ground := Ground.data }], guard := none }) (v := ?_) rfl (by kernel_rfl) (by kernel_rfl) (by kernel_rfl) (fun _ _ _ h => h) (Or.inl ⟨by rfl, ?_⟩) (by assumption) ?_
      rotate_left
      · intro w hSw; (try dsimp only at hSw); go_simp <;> with_reducible rfl
      try simp only [Act.put, List.setIfInBounds_toArray, List.set_cons_zero, List.set_cons_succ]
      refine wpAnyH_take (i := 7) (oi := { dst := some 24, op := Op.load 41 (Operand.tmp 23), type := 41, pos := "exact.go:846", after := #[{ on := 6, ground := Ground.data }], guard := none }) (v := .agg (ndC (X k) (A' k))) rfl (by kernel_rfl) (by kernel_rfl) (by kernel_rfl) (fun _ _ _ h => h) (yields_node (by rfl) _ rfl b' (o' + k * 31) rfl (X k) (A' k) (fun w h => h.2)) (by assumption) ?_
      try simp only [Act.put, List.setIfInBounds_toArray, List.set_cons_zero, List.set_cons_succ]
      refine wpAnyH_ready (rs := [8]) (by kernel_rfl) (by simp) ?_
      refine AllReadyH.cons (o := { dst := some 25, op := Op.call { callee := Callee.value (Operand.func 51), args := #[Operand.tmp 20, Operand.tmp 24], argTypes := #[41, 41] }, type := 4, pos := "exact.go:846", after := #[{ on := 3, ground := Ground.data }, { on := 7, ground := Ground.data }], guard := none }) rfl (fun K hK => ?_) AllReadyH.nil
      go_simp
      (first | (go_at_call 51; go_fit (unhide E); rintro e w4 ⟨rfl, hb⟩))
      refine hK.out _ _ ?_ (fun hHeld => ?_)
      · exact hkeep _ (by assumption)
      clear hK K
      try simp only [Act.put, List.setIfInBounds_toArray, List.set_cons_zero, List.set_cons_succ]
      refine wpAnyH_take (i := 9) (oi := { dst := some 26, op := Op.unOp UnOp.not 4 (Operand.tmp 25), type := 4, pos := "exact.go:846", after := #[{ on := 8, ground := Ground.data }], guard := none }) (v := ?_) rfl (by kernel_rfl) (by kernel_rfl) (by kernel_rfl) (fun _ _ _ h => h) (Or.inl ⟨by rfl, ?_⟩) (by assumption) ?_
      rotate_left
      · intro w hSw; (try dsimp only at hSw); go_simp <;> with_reducible rfl
      try simp only [Act.put, List.setIfInBounds_toArray, List.set_cons_zero, List.set_cons_succ]
      refine wpAnyH_done (by kernel_rfl) ?_ _
      replace HB := hide (below_two (unhide HB) (below_undrew hb))
      go_wp2_with fail
      go_roundw
      case rel => exact ⟨k + 1, by omega, by go_num, HB⟩
      case measure => simp [intOf]; omega
    · have hke : k = n := by omega
      subst hke
      have hki : ¬ (k : Int) < (k : Int) := by omega
      go_wp2_with fail
      go_ret
      exact ⟨rfl, unhide HB⟩

set_option maxHeartbeats 2000000 in
theorem eqScene_same (X : Nat → Nd) (A A' : Nat → Na) (ao bo : Option Addr) (n cp cp' : Nat) (hn : n ≤ 1048576) (hs : ∀ i, i < n → (X i).Small) (w : World) (P : ∀ i, i < n → NrAt w ao i (X i) (A i)) (P' : ∀ i, i < n → NrAt w bo i (X i) (A' i)) :
    Calls Try.prog 16 #[.agg #[.slice ao n cp], .agg #[.slice bo n cp']] w fun r w' => r = .returned (.bool true) ∧ Below w.heap.size w w' := by
  replace P := hide P
  replace P' := hide P'
  have E := hide (fun u => eqNodeS_same X A A' ao bo n cp cp' hn hs u)
  go_enter Try.func16, Try.ntmps16
  go_upto_region 1 with fail
  have R1 := hide (al2_0 w (.cells #[.slice ao n cp] 26) (.cells #[.slice bo n cp'] 26))
  have R2 := hide (al2_1 w (.cells #[.slice ao n cp] 26) (.cells #[.slice bo n cp'] 26))
  have HB := hide (al2_below w (.cells #[.slice ao n cp] 26) (.cells #[.slice bo n cp'] 26))
  obtain ⟨b2, hb2⟩ : ∃ b, Hid (b = w.heap.size + 1) := ⟨_, rfl⟩
  obtain ⟨b1, hb1⟩ : ∃ b, Hid (b = w.heap.size) := ⟨_, rfl⟩
  rw [← unhide hb2] at R2
  rw [← unhide hb1] at R1
  rw [← unhide hb2, ← unhide hb1]
  generalize (w.alloc (.cells #[.slice ao n cp] 26)).alloc (.cells #[.slice bo n cp'] 26) = W at R1 R2 HB ⊢
  have c0 := row1 (unhide R1)
  have d0 := row1 (unhide R2)
  have F := hide (unhide E W (fun i hi => (unhide P i hi).next (unhide HB)) (fun i hi => (unhide P' i hi).next (unhide HB)))
  go_wp2_with fail
  go_fit (unhide F)
  rintro r w1 ⟨rfl, hb⟩
  replace HB := hide (below_two (unhide HB) hb)
  go_wp2_with fail
  go_ret
  exact ⟨rfl, unhide HB⟩
end Go.Proofs.Ytdbphpekhmlmdaa

/-
  The exact laws of SceneOk, NodeAt and DepthOf, from what the program's functions answer. (By scenelaw.py.)
-/
namespace Go.Proofs.Ytdbphpekhmlmdaa
open Go.RowKit
set_option linter.unusedVariables false

theorem NdO.caps {w : World} {base : Nat} {K : Nat → Nat} {x : Nd} {s : Na} (h : NdO w base K x s) : Caps x s :=
  let ⟨_, a1, _⟩ := h.v; let ⟨_, b1, _⟩ := h.p; let ⟨_, c1, _⟩ := h.d; let ⟨_, d1, _⟩ := h.cv; let ⟨_, e1, _⟩ := h.cp
  ⟨own_caps a1, own_caps b1, own_caps c1, own_caps d1, own_caps e1⟩
theorem ScV.caps {w : World} {base n c : Nat} {a : Option Addr} {X : Nat → Nd} {A : Nat → Na} (h : ScV w base a n c X A) : ∀ i, i < n → Caps (X i) (A i) :=
  let ⟨_, _, _, _, _, _, _, _, h5⟩ := h; fun i hi => (h5.own i hi).caps
theorem ScV.some {w : World} {base n c : Nat} {a : Option Addr} {X : Nat → Nd} {A : Nat → Na} (h : ScV w base a n c X A) : a = none → c = 0 :=
  let ⟨_, _, _, _, h1, _⟩ := h; fun e => by rw [h1] at e; cases e

end Go.Proofs.Ytdbphpekhmlmdaa

/-
  The exact law of MatOf. (By matlaw.py.)
-/
namespace Go.Proofs.Ytdbphpekhmlmdaa
open Go.RowKit
set_option linter.unusedVariables false

set_option maxHeartbeats 8000000 in
set_option maxRecDepth 100000 in
theorem fnExactMatOf_walk (ao : Option Addr) (n cp : Nat) (X : Nat → Nd) (A : Nat → Na) (id : Int) (hid : (Lit.int .i64 id).wf = true) (w : World) (hw : n ≤ maxLen ∧ (∀ i, i < n → (X i).Fit) ∧ ∀ i, i < n → NrAt w ao i (X i) (A i)) :
    Calls Try.prog 4 #[.agg #[.slice ao n cp], .int .i64 id] w fun r w' => r = .returned (.bool true) ∧ Below w.heap.size w w' := by
  obtain ⟨hm, hf, P⟩ := hw
  have Z := hide (fun u (hu : Below w.heap.size w u) => szScene_any X A ao n cp hm hf u (fun i hi => (P i hi).next hu))
  by_cases hbig : 1048576 < scT X n
  · rw [if_pos hbig] at Z
    go_enter Try.func4, Try.ntmps4
    go_wp2_with fail
    go_fit (unhide Z _ (al1_below _ _))
    rintro r w1 ⟨rfl, hb⟩
    go_wp2_with fail
    go_ret
    exact ⟨rfl, below_two (al1_below _ _) hb⟩
  · rw [if_neg hbig] at Z
    have hpos : ¬ ((1048576 : Int) - (scT X n : Int) < 0) := by omega
    have hn : n ≤ 1048576 := by unfold scT at hbig; omega
    have hs : ∀ i, i < n → (X i).Small := fun i hi => Nd.small (by have := sumT_le X hi; unfold scT at hbig; omega)
    have T := hide (fun u (hu : Below w.heap.size w u) => toScene_own X A ao n cp hn hs u (fun i hi => (P i hi).next hu))
    have S := hide (fun (u : World) (a : Option Addr) (A' : Nat → Na) (base : Nat) (h : ScV u base a n n X A') => specMatOf_any X A' a n n hn hs id u h.nodes)
    have I := hide (fun (u : World) (a : Option Addr) (A' : Nat → Na) (base : Nat) (h : ScV u base a n n X A') => implMatOf_any X A' a n n hn hs (fun i hi => (hf i hi).idw) (fun i hi => (hf i hi).parw) id hid u h.nodes)
    have EX := hide (fun (u : World) (a a' : Option Addr) (A1 A2 : Nat → Na) (base base' : Nat) (h : ScV u base a n n X A1) (h' : ScV u base' a' n n X A2) => eqScene_same X A1 A2 a a' n n n hn hs u h.nodes h'.nodes)
    clear P hm hf hbig hn hs hid
    generalize matM X n id = R at S I
    obtain ⟨m1, y1⟩ := R
    have EQ := hide (fun u => show Calls Try.prog 15 #[.agg (mC m1), .agg (mC m1)] u (fun r w' => r = .returned (.bool true) ∧ Below u.heap.size u w') from eqMat_same _ _ _ _ _ _ u)
    have hyy : (y1 != y1) = false := by cases y1 <;> rfl
    go_enter Try.func4, Try.ntmps4
    go_upto_region 1 with fail
    have RP := hide (new_row w (.cells #[.slice ao n cp] 49))
    have HB := hide (al1_below w (.cells #[.slice ao n cp] 49))
    obtain ⟨b1, hb1⟩ : ∃ b, Hid (b = w.heap.size) := ⟨_, rfl⟩
    rw [← unhide hb1] at RP
    rw [← unhide hb1]
    generalize w.alloc (.cells #[.slice ao n cp] 49) = W at RP HB ⊢
    have q0 := row1 (unhide RP)
    go_wp2_with fail
    go_fit (unhide Z _ (unhide HB))
    rintro r w1 ⟨rfl, hb⟩
    replace RP := hide (row_next hb (unhide RP))
    replace HB := hide (below_two (unhide HB) hb)
    clear hb Z q0
    have q0 := row1 (unhide RP)
    go_wp2_with fail
    go_fit (unhide T _ (unhide HB))
    rintro r w2 ⟨a2, A2, rfl, p2, hb⟩
    replace RP := hide (row_next hb (unhide RP))
    replace HB := hide (below_two (unhide HB) hb)
    clear hb q0
    go_wp2_with fail
    go_fit (unhide S _ _ _ _ p2)
    rintro r w3 ⟨rfl, hb⟩
    replace RP := hide (row_next hb (unhide RP))
    replace HB := hide (below_two (unhide HB) hb)
    clear hb p2
    go_upto_region 6 with (refine mat_new rfl _ _ rfl _ m1 rfl rfl rfl ?_)
    have R6 := hide (new_row w3 (.cells (mC m1) 29))
    replace RP := hide (row_next (al1_below w3 (.cells (mC m1) 29)) (unhide RP))
    replace HB := hide (below_two (unhide HB) (al1_below w3 (.cells (mC m1) 29)))
    generalize w3.alloc (.cells (mC m1) 29) = w3x at RP R6 HB ⊢
    generalize w3.heap.size = b6 at R6 ⊢
    have q0 := row1 (unhide RP)
    go_wp2_with fail
    go_fit (unhide T _ (unhide HB))
    rintro r w4 ⟨a4, A4, rfl, p4, hb⟩
    replace RP := hide (row_next hb (unhide RP))
    replace R6 := hide (row_next hb (unhide R6))
    replace HB := hide (below_two (unhide HB) hb)
    clear hb q0
    replace p4 := hide p4
    go_upto_region 7 with fail
    have R5 := hide (new_row w4 (.cells #[.slice a4 n n] 26))
    replace RP := hide (row_next (al1_below w4 (.cells #[.slice a4 n n] 26)) (unhide RP))
    replace R6 := hide (row_next (al1_below w4 (.cells #[.slice a4 n n] 26)) (unhide R6))
    replace p4 := hide ((unhide p4).next (al1_below w4 (.cells #[.slice a4 n n] 26)))
    replace HB := hide (below_two (unhide HB) (al1_below w4 (.cells #[.slice a4 n n] 26)))
    generalize w4.alloc (.cells #[.slice a4 n n] 26) = W5 at RP R6 R5 p4 HB ⊢
    generalize w4.heap.size = b5 at R5 ⊢
    have q0 := row1 (unhide R5)
    go_wp2_with fail
    go_fit (unhide I _ _ _ _ (unhide p4))
    rintro r w6 ⟨rfl, hb⟩
    replace RP := hide (row_next hb (unhide RP))
    replace R6 := hide (row_next hb (unhide R6))
    replace R5 := hide (row_next hb (unhide R5))
    replace p4 := hide ((unhide p4).next hb)
    replace HB := hide (below_two (unhide HB) hb)
    clear hb q0
    go_upto_region 8 with (refine mat_new rfl _ _ rfl _ m1 rfl rfl rfl ?_)
    have R9 := hide (new_row w6 (.cells (mC m1) 29))
    replace RP := hide (row_next (al1_below w6 (.cells (mC m1) 29)) (unhide RP))
    replace R6 := hide (row_next (al1_below w6 (.cells (mC m1) 29)) (unhide R6))
    replace R5 := hide (row_next (al1_below w6 (.cells (mC m1) 29)) (unhide R5))
    replace p4 := hide ((unhide p4).next (al1_below w6 (.cells (mC m1) 29)))
    replace HB := hide (below_two (unhide HB) (al1_below w6 (.cells (mC m1) 29)))
    generalize w6.alloc (.cells (mC m1) 29) = w6x at RP R6 R5 p4 R9 HB ⊢
    generalize w6.heap.size = b9 at R9 ⊢
    have h6 := hide (mat_rng (unhide R6))
    have h9 := hide (mat_rng (unhide R9))
    go_wp2_with (first | with_reducible refine load_mat rfl _ rfl b9 0 rfl m1 (unhide h9) ?_ | with_reducible refine load_mat rfl _ rfl b6 0 rfl m1 (unhide h6) ?_)
    go_fit (unhide EQ _)
    rintro r w8 ⟨rfl, hb⟩
    replace RP := hide (row_next hb (unhide RP))
    replace R5 := hide (row_next hb (unhide R5))
    replace p4 := hide ((unhide p4).next hb)
    replace HB := hide (below_two (unhide HB) hb)
    clear hb R6 R9 h6 h9
    go_upto_region 10 with fail
    have K0 : Hid (∀ u, Below w8.heap.size w8 u → (u.cell? ⟨b5, 0, none⟩ = some (.slice a4 n n) ∧ u.cell? ⟨b1, 0, none⟩ = some (.slice ao n cp) ∧ Below w8.heap.size w8 u)) := fun u h => ⟨row1 (row_next h (unhide R5)), row1 (row_next h (unhide RP)), h⟩
    have kS : Hid (∀ u, (u.cell? ⟨b5, 0, none⟩ = some (.slice a4 n n) ∧ u.cell? ⟨b1, 0, none⟩ = some (.slice ao n cp) ∧ Below w8.heap.size w8 u) → Below w8.heap.size w8 u) := fun u h => h.2.2
    go_region_held3 (fun u => u.cell? ⟨b5, 0, none⟩ = some (.slice a4 n n) ∧ u.cell? ⟨b1, 0, none⟩ = some (.slice ao n cp) ∧ Below w8.heap.size w8 u) ((first | with_reducible assumption | (refine unhide K0 _ ?_; first | with_reducible exact (Below.refl _ _).drew | with_reducible assumption))) (first | (go_at_call 14; go_fit (unhide T _ (below_two (unhide HB) (unhide kS _ (by with_reducible assumption)))); rintro r w27 ⟨a7, A7, rfl, p7, hb7⟩; have h7 := below_after hb7 (unhide kS _ (by with_reducible assumption)) (Nat.le_refl _)) | (go_at_call 16; go_fit (unhide EX _ _ _ _ _ _ _ ((unhide p4).next h7) p7); rintro r w28 ⟨rfl, hb8⟩; have h8 := below_after hb8 h7 (Nat.le_refl _)))
    all_goals
      have h9 := hide (below_two (unhide HB) (unhide kS _ (by with_reducible assumption)))
      go_wp2_with fail
      go_ret
      exact ⟨rfl, unhide h9⟩
end Go.Proofs.Ytdbphpekhmlmdaa

/-
  Flat structs of whole numbers that came in: their cells written out.
-/
namespace Go.Proofs.Ytdbphpekhmlmdaa
open Go.ChangeShapes Go.WideShapes

theorem array_2 {α : Type} {cs : Array α} (h : cs.size = 2) : ∃ c0 c1, cs = #[c0, c1] := by
  obtain ⟨l⟩ := cs
  match l, h with
  | [c0, c1], _ => exact ⟨c0, c1, rfl⟩

theorem open_struct2 {H : Type} {enc : TypeId × Value → H} {P : Program} {w : World} {r : Reach} {base b0 : Nat} {sp : Nat → Bool} {held : Bool} {t e : TypeId} {f0 f1 : Field} {v : Value} {d : DataW H} {p : List MemPlace}
    (hs : P.underlying t = some (.struct #[f0, f1])) (hf : [f0, f1].map (fun f => (f.offset, f.type)) = [(0, e), (1, e)]) (he : P.underlying e = some (.int .i64)) (hce : P.cellsOf e = 1) (hC : P.cellsOf t = 2)
    (hv : Value.okWide P w r b0 t v) (h : DataW.Trod enc P w base sp held t v d p) :
    ∃ a0 a1 : Int, v = .agg #[.int .i64 a0, .int .i64 a1] ∧ (Lit.int .i64 a0).wf = true ∧ (Lit.int .i64 a1).wf = true := by
  obtain ⟨cs, rfl, hsz⟩ := okWide_struct hs hv
  obtain ⟨c0, c1, rfl⟩ := array_2 (hsz.trans hC)
  obtain ⟨fuel, hh⟩ := h
  obtain ⟨xs, m, _, _, _, hl, hx⟩ := DataW.trod_struct hs hh
  have hl' : xs.length = 2 := hl
  simp only [List.map_cons, List.map_nil, List.cons.injEq, Prod.mk.injEq, and_true] at hf
  obtain ⟨⟨o0, t0⟩, ⟨o1, t1⟩⟩ := hf
  have g0 := hx 0 f0 rfl
  rw [o0, t0, hce, List.getElem?_eq_getElem (by omega)] at g0
  obtain ⟨z0, e0, _, w0⟩ := DataW.trod_int he g0
  simp [Value.cells] at e0
  have g1 := hx 1 f1 rfl
  rw [o1, t1, hce, List.getElem?_eq_getElem (by omega)] at g1
  obtain ⟨z1, e1, _, w1⟩ := DataW.trod_int he g1
  simp [Value.cells] at e1
  exact ⟨z0, z1, by rw [e0, e1], w0, w1⟩

theorem array_4 {α : Type} {cs : Array α} (h : cs.size = 4) : ∃ c0 c1 c2 c3, cs = #[c0, c1, c2, c3] := by
  obtain ⟨l⟩ := cs
  match l, h with
  | [c0, c1, c2, c3], _ => exact ⟨c0, c1, c2, c3, rfl⟩

theorem open_struct4 {H : Type} {enc : TypeId × Value → H} {P : Program} {w : World} {r : Reach} {base b0 : Nat} {sp : Nat → Bool} {held : Bool} {t e : TypeId} {f0 f1 f2 f3 : Field} {v : Value} {d : DataW H} {p : List MemPlace}
    (hs : P.underlying t = some (.struct #[f0, f1, f2, f3])) (hf : [f0, f1, f2, f3].map (fun f => (f.offset, f.type)) = [(0, e), (1, e), (2, e), (3, e)]) (he : P.underlying e = some (.int .i64)) (hce : P.cellsOf e = 1) (hC : P.cellsOf t = 4)
    (hv : Value.okWide P w r b0 t v) (h : DataW.Trod enc P w base sp held t v d p) :
    ∃ a0 a1 a2 a3 : Int, v = .agg #[.int .i64 a0, .int .i64 a1, .int .i64 a2, .int .i64 a3] ∧ (Lit.int .i64 a0).wf = true ∧ (Lit.int .i64 a1).wf = true ∧ (Lit.int .i64 a2).wf = true ∧ (Lit.int .i64 a3).wf = true := by
  obtain ⟨cs, rfl, hsz⟩ := okWide_struct hs hv
  obtain ⟨c0, c1, c2, c3, rfl⟩ := array_4 (hsz.trans hC)
  obtain ⟨fuel, hh⟩ := h
  obtain ⟨xs, m, _, _, _, hl, hx⟩ := DataW.trod_struct hs hh
  have hl' : xs.length = 4 := hl
  simp only [List.map_cons, List.map_nil, List.cons.injEq, Prod.mk.injEq, and_true] at hf
  obtain ⟨⟨o0, t0⟩, ⟨o1, t1⟩, ⟨o2, t2⟩, ⟨o3, t3⟩⟩ := hf
  have g0 := hx 0 f0 rfl
  rw [o0, t0, hce, List.getElem?_eq_getElem (by omega)] at g0
  obtain ⟨z0, e0, _, w0⟩ := DataW.trod_int he g0
  simp [Value.cells] at e0
  have g1 := hx 1 f1 rfl
  rw [o1, t1, hce, List.getElem?_eq_getElem (by omega)] at g1
  obtain ⟨z1, e1, _, w1⟩ := DataW.trod_int he g1
  simp [Value.cells] at e1
  have g2 := hx 2 f2 rfl
  rw [o2, t2, hce, List.getElem?_eq_getElem (by omega)] at g2
  obtain ⟨z2, e2, _, w2⟩ := DataW.trod_int he g2
  simp [Value.cells] at e2
  have g3 := hx 3 f3 rfl
  rw [o3, t3, hce, List.getElem?_eq_getElem (by omega)] at g3
  obtain ⟨z3, e3, _, w3⟩ := DataW.trod_int he g3
  simp [Value.cells] at e3
  exact ⟨z0, z1, z2, z3, by rw [e0, e1, e2, e3], w0, w1, w2, w3⟩

theorem array_6 {α : Type} {cs : Array α} (h : cs.size = 6) : ∃ c0 c1 c2 c3 c4 c5, cs = #[c0, c1, c2, c3, c4, c5] := by
  obtain ⟨l⟩ := cs
  match l, h with
  | [c0, c1, c2, c3, c4, c5], _ => exact ⟨c0, c1, c2, c3, c4, c5, rfl⟩

theorem open_struct6 {H : Type} {enc : TypeId × Value → H} {P : Program} {w : World} {r : Reach} {base b0 : Nat} {sp : Nat → Bool} {held : Bool} {t e : TypeId} {f0 f1 f2 f3 f4 f5 : Field} {v : Value} {d : DataW H} {p : List MemPlace}
    (hs : P.underlying t = some (.struct #[f0, f1, f2, f3, f4, f5])) (hf : [f0, f1, f2, f3, f4, f5].map (fun f => (f.offset, f.type)) = [(0, e), (1, e), (2, e), (3, e), (4, e), (5, e)]) (he : P.underlying e = some (.int .i64)) (hce : P.cellsOf e = 1) (hC : P.cellsOf t = 6)
    (hv : Value.okWide P w r b0 t v) (h : DataW.Trod enc P w base sp held t v d p) :
    ∃ a0 a1 a2 a3 a4 a5 : Int, v = .agg #[.int .i64 a0, .int .i64 a1, .int .i64 a2, .int .i64 a3, .int .i64 a4, .int .i64 a5] ∧ (Lit.int .i64 a0).wf = true ∧ (Lit.int .i64 a1).wf = true ∧ (Lit.int .i64 a2).wf = true ∧ (Lit.int .i64 a3).wf = true ∧ (Lit.int .i64 a4).wf = true ∧ (Lit.int .i64 a5).wf = true := by
  obtain ⟨cs, rfl, hsz⟩ := okWide_struct hs hv
  obtain ⟨c0, c1, c2, c3, c4, c5, rfl⟩ := array_6 (hsz.trans hC)
  obtain ⟨fuel, hh⟩ := h
  obtain ⟨xs, m, _, _, _, hl, hx⟩ := DataW.trod_struct hs hh
  have hl' : xs.length = 6 := hl
  simp only [List.map_cons, List.map_nil, List.cons.injEq, Prod.mk.injEq, and_true] at hf
  obtain ⟨⟨o0, t0⟩, ⟨o1, t1⟩, ⟨o2, t2⟩, ⟨o3, t3⟩, ⟨o4, t4⟩, ⟨o5, t5⟩⟩ := hf
  have g0 := hx 0 f0 rfl
  rw [o0, t0, hce, List.getElem?_eq_getElem (by omega)] at g0
  obtain ⟨z0, e0, _, w0⟩ := DataW.trod_int he g0
  simp [Value.cells] at e0
  have g1 := hx 1 f1 rfl
  rw [o1, t1, hce, List.getElem?_eq_getElem (by omega)] at g1
  obtain ⟨z1, e1, _, w1⟩ := DataW.trod_int he g1
  simp [Value.cells] at e1
  have g2 := hx 2 f2 rfl
  rw [o2, t2, hce, List.getElem?_eq_getElem (by omega)] at g2
  obtain ⟨z2, e2, _, w2⟩ := DataW.trod_int he g2
  simp [Value.cells] at e2
  have g3 := hx 3 f3 rfl
  rw [o3, t3, hce, List.getElem?_eq_getElem (by omega)] at g3
  obtain ⟨z3, e3, _, w3⟩ := DataW.trod_int he g3
  simp [Value.cells] at e3
  have g4 := hx 4 f4 rfl
  rw [o4, t4, hce, List.getElem?_eq_getElem (by omega)] at g4
  obtain ⟨z4, e4, _, w4⟩ := DataW.trod_int he g4
  simp [Value.cells] at e4
  have g5 := hx 5 f5 rfl
  rw [o5, t5, hce, List.getElem?_eq_getElem (by omega)] at g5
  obtain ⟨z5, e5, _, w5⟩ := DataW.trod_int he g5
  simp [Value.cells] at e5
  exact ⟨z0, z1, z2, z3, z4, z5, by rw [e0, e1, e2, e3, e4, e5], w0, w1, w2, w3, w4, w5⟩
end Go.Proofs.Ytdbphpekhmlmdaa

/-
  Lists of points that came in: their cells written out.
-/
namespace Go.Proofs.Ytdbphpekhmlmdaa
open Go.ChangeShapes Go.WideShapes Go.RowKit

theorem open_points {H : Type} {enc : TypeId × Value → H} {P : Program} {w : World} {base : Nat} {sp : Nat → Bool} {held : Bool} {t e : TypeId} {f0 f1 : Field} {a : Option Addr} {n c fuel : Nat} {x : DataW H × List MemPlace}
    (ht : P.underlying t = some (.slice e)) (he : P.underlying e = some (.struct #[f0, f1])) (ce : P.cellsOf e = 2) (o0 : f0.offset = 0) (o1 : f1.offset = 1) (c0 : P.cellsOf f0.type = 1) (c1 : P.cellsOf f1.type = 1)
    (k0 : P.underlying f0.type = some (.int .i64)) (k1 : P.underlying f1.type = some (.int .i64))
    (h : DataW.trod enc P w base sp held fuel t [.slice a n c] = some x) :
    ∃ f : Nat → Int × Int, n ≤ maxLen ∧ ∀ i, i < n → PtArg w a i (f i) := by
  rcases Go.Deep.open_slice_pairs ht he ce o0 o1 c0 c1 h with ⟨hcs, _⟩ | ⟨b, len, cap, m, q, V0, V1, D0, D1, P0, P1, hcs, _, hl, hm, hmm, _, hx⟩
  · simp at hcs
    obtain ⟨rfl, rfl, rfl⟩ := hcs
    exact ⟨fun _ => (0, 0), by unfold maxLen; omega, fun i hi => absurd hi (by omega)⟩
  · simp at hcs
    obtain ⟨rfl, rfl, rfl⟩ := hcs
    have hnm : n ≤ m := by rw [hmm]; split <;> omega
    have each : ∀ i, i < n → ∃ p : Int × Int, PtArg w (some b) i p := by
      intro i hi
      obtain ⟨g0, g1, r0, r1⟩ := hx i (by omega)
      obtain ⟨z0, e0, _, _⟩ := DataW.trod_int k0 r0
      obtain ⟨z1, e1, _, _⟩ := DataW.trod_int k1 r1
      simp at e0 e1
      rw [e0] at g0
      rw [e1] at g1
      obtain ⟨bb, off, spot⟩ := b
      have hs := World.cell?_spot (hx 0 (by omega)).1
      have hspot : spot = none := by simpa [Addr.add] using hs
      subst hspot
      refine ⟨(z0, z1), bb, off, rfl, ?_, ?_⟩
      · by_cases hi0 : i = 0
        · subst hi0; simpa [Addr.add] using g0
        · have : i * 2 ≠ 0 := by omega
          rw [Addr.add, if_neg this] at g0; exact g0
      · simpa [Addr.add, Nat.add_assoc] using g1
    obtain ⟨f, hf⟩ := Go.Deep.choose_lt each
    exact ⟨f, by omega, hf⟩
end Go.Proofs.Ytdbphpekhmlmdaa

/-
  Paths that came in: their cells written out.
-/
namespace Go.Proofs.Ytdbphpekhmlmdaa
open Go.ChangeShapes Go.WideShapes Go.RowKit

theorem spot_none {w : World} {b : Addr} {v : Value} (h : w.cell? (b.add 0) = some v) : b.spot = none := by
  have hs := World.cell?_spot h
  simpa [Addr.add] using hs

theorem open_ilist {H : Type} {enc : TypeId × Value → H} {P : Program} {w : World} {base : Nat} {sp : Nat → Bool} {held : Bool} {t e : TypeId} {c : Value} {fuel : Nat} {x : DataW H × List MemPlace}
    (ht : P.underlying t = some (.slice e)) (he : P.underlying e = some (.int .i64)) (hc : P.cellsOf e = 1) (h : DataW.trod enc P w base sp held fuel t [c] = some x) :
    ∃ (a : Option Addr) (n cap : Nat) (f : Nat → Int), c = .slice a n cap ∧ n ≤ maxLen ∧ ∀ i, i < n → IntAt w a i (f i) := by
  rcases open_ints ht he hc h with ⟨hcs, _⟩ | ⟨b, l, cap, zs, hcs, _, hl, hm, hz, _, hcell, hwz⟩
  · simp at hcs
    exact ⟨none, 0, 0, fun _ => 0, hcs, by unfold maxLen; omega, fun i hi => absurd hi (by omega)⟩
  · simp at hcs
    have hlz : l ≤ zs.length := by rw [hz]; split <;> omega
    refine ⟨some b, l, cap, fun i => zs.getD i 0, hcs, by omega, fun i hi => ?_⟩
    have h0 := spot_none (hcell 0 (by omega))
    obtain ⟨bb, off, spot⟩ := b
    dsimp only at h0
    subst h0
    have hi' := hcell i (by omega)
    have hadd : (⟨bb, off, none⟩ : Addr).add i = ⟨bb, off + i, none⟩ := by unfold Addr.add; split <;> simp_all
    rw [hadd] at hi'
    exact ⟨bb, off, rfl, hi'⟩

theorem open_plist {H : Type} {enc : TypeId × Value → H} {P : Program} {w : World} {base : Nat} {sp : Nat → Bool} {held : Bool} {t e : TypeId} {f0 f1 : Field} {c : Value} {fuel : Nat} {x : DataW H × List MemPlace}
    (ht : P.underlying t = some (.slice e)) (he : P.underlying e = some (.struct #[f0, f1])) (ce : P.cellsOf e = 2) (o0 : f0.offset = 0) (o1 : f1.offset = 1) (c0 : P.cellsOf f0.type = 1) (c1 : P.cellsOf f1.type = 1)
    (k0 : P.underlying f0.type = some (.int .i64)) (k1 : P.underlying f1.type = some (.int .i64))
    (h : DataW.trod enc P w base sp held fuel t [c] = some x) :
    ∃ (a : Option Addr) (n cap : Nat) (f : Nat → Int × Int), c = .slice a n cap ∧ n ≤ maxLen ∧ ∀ i, i < n → PtArg w a i (f i) := by
  rcases Go.Deep.open_slice_pairs ht he ce o0 o1 c0 c1 h with ⟨hcs, _⟩ | ⟨b, len, cap, m, q, V0, V1, D0, D1, P0, P1, hcs, _, hl, hm, hmm, _, hx⟩
  · simp at hcs
    subst hcs
    obtain ⟨f, h1, h2⟩ := open_points ht he ce o0 o1 c0 c1 k0 k1 h
    exact ⟨_, _, _, f, rfl, h1, h2⟩
  · simp at hcs
    subst hcs
    obtain ⟨f, h1, h2⟩ := open_points ht he ce o0 o1 c0 c1 k0 k1 h
    exact ⟨_, _, _, f, rfl, h1, h2⟩

theorem open_path {H : Type} {enc : TypeId × Value → H} {P : Program} {w : World} {r : Reach} {base b0 : Nat} {sp : Nat → Bool} {held : Bool} {t t0 t1 e0 e1 : TypeId} {f0 f1 g0 g1 : Field} {v : Value} {d : DataW H} {p : List MemPlace}
    (hs : P.underlying t = some (.struct #[f0, f1])) (hf : [f0, f1].map (fun f => (f.offset, f.type)) = [(0, t0), (1, t1)]) (hc0 : P.cellsOf t0 = 1) (hc1 : P.cellsOf t1 = 1) (hC : P.cellsOf t = 2)
    (s0 : P.underlying t0 = some (.slice e0)) (s1 : P.underlying t1 = some (.slice e1)) (i0 : P.underlying e0 = some (.int .i64)) (ce0 : P.cellsOf e0 = 1)
    (he : P.underlying e1 = some (.struct #[g0, g1])) (ce : P.cellsOf e1 = 2) (o0 : g0.offset = 0) (o1 : g1.offset = 1) (c0 : P.cellsOf g0.type = 1) (c1 : P.cellsOf g1.type = 1) (k0 : P.underlying g0.type = some (.int .i64)) (k1 : P.underlying g1.type = some (.int .i64))
    (hv : Value.okWide P w r b0 t v) (h : DataW.Trod enc P w base sp held t v d p) :
    ∃ (a : Option Addr) (n c : Nat) (vf : Nat → Int) (b : Option Addr) (m d : Nat) (pf : Nat → Int × Int), v = .agg #[.slice a n c, .slice b m d] ∧ n ≤ maxLen ∧ (∀ i, i < n → IntAt w a i (vf i)) ∧ m ≤ maxLen ∧ ∀ i, i < m → PtArg w b i (pf i) := by
  obtain ⟨cs, rfl, hsz⟩ := okWide_struct hs hv
  obtain ⟨x0, x1, rfl⟩ := array_2 (hsz.trans hC)
  obtain ⟨fuel, hh⟩ := h
  obtain ⟨xs, m', _, _, _, hl, hx⟩ := DataW.trod_struct hs hh
  have hl' : xs.length = 2 := hl
  simp only [List.map_cons, List.map_nil, List.cons.injEq, Prod.mk.injEq, and_true] at hf
  obtain ⟨⟨q0, r0⟩, ⟨q1, r1⟩⟩ := hf
  have y0 := hx 0 f0 rfl
  rw [q0, r0, hc0, List.getElem?_eq_getElem (by omega)] at y0
  have y1 := hx 1 f1 rfl
  rw [q1, r1, hc1, List.getElem?_eq_getElem (by omega)] at y1
  simp [Value.cells] at y0 y1
  obtain ⟨a, n, c, vf, rfl, h1, h2⟩ := open_ilist s0 i0 ce0 y0
  obtain ⟨b, m, d, pf, rfl, h3, h4⟩ := open_plist s1 he ce o0 o1 c0 c1 k0 k1 y1
  exact ⟨a, n, c, vf, b, m, d, pf, rfl, h1, h2, h3, h4⟩
end Go.Proofs.Ytdbphpekhmlmdaa

/-
  Paints that came in: their cells written out.
-/
namespace Go.Proofs.Ytdbphpekhmlmdaa
open Go.ChangeShapes Go.WideShapes

theorem array_13 {α : Type} {cs : Array α} (h : cs.size = 13) : ∃ c0 c1 c2 c3 c4 c5 c6 c7 c8 c9 c10 c11 c12, cs = #[c0, c1, c2, c3, c4, c5, c6, c7, c8, c9, c10, c11, c12] := by
  obtain ⟨l⟩ := cs
  match l, h with
  | [c0, c1, c2, c3, c4, c5, c6, c7, c8, c9, c10, c11, c12], _ => exact ⟨c0, c1, c2, c3, c4, c5, c6, c7, c8, c9, c10, c11, c12, rfl⟩

theorem open_quad {H : Type} {enc : TypeId × Value → H} {P : Program} {w : World} {base : Nat} {sp : Nat → Bool} {held : Bool} {t e : TypeId} {f0 f1 f2 f3 : Field} {c0 c1 c2 c3 : Value} {fuel : Nat} {x : DataW H × List MemPlace}
    (hs : P.underlying t = some (.struct #[f0, f1, f2, f3])) (hf : [f0, f1, f2, f3].map (fun f => (f.offset, f.type)) = [(0, e), (1, e), (2, e), (3, e)]) (he : P.underlying e = some (.int .i64)) (hce : P.cellsOf e = 1)
    (h : DataW.trod enc P w base sp held fuel t [c0, c1, c2, c3] = some x) :
    ∃ a0 a1 a2 a3 : Int, c0 = .int .i64 a0 ∧ c1 = .int .i64 a1 ∧ c2 = .int .i64 a2 ∧ c3 = .int .i64 a3 ∧ (Lit.int .i64 a0).wf = true ∧ (Lit.int .i64 a1).wf = true ∧ (Lit.int .i64 a2).wf = true ∧ (Lit.int .i64 a3).wf = true := by
  obtain ⟨xs, m, _, _, _, hl, hx⟩ := DataW.trod_struct hs h
  have hl' : xs.length = 4 := hl
  simp only [List.map_cons, List.map_nil, List.cons.injEq, Prod.mk.injEq, and_true] at hf
  obtain ⟨⟨o0, t0⟩, ⟨o1, t1⟩, ⟨o2, t2⟩, ⟨o3, t3⟩⟩ := hf
  have g0 := hx 0 f0 rfl
  rw [o0, t0, hce, List.getElem?_eq_getElem (by omega)] at g0
  obtain ⟨z0, e0, _, w0⟩ := DataW.trod_int he g0
  simp at e0
  have g1 := hx 1 f1 rfl
  rw [o1, t1, hce, List.getElem?_eq_getElem (by omega)] at g1
  obtain ⟨z1, e1, _, w1⟩ := DataW.trod_int he g1
  simp at e1
  have g2 := hx 2 f2 rfl
  rw [o2, t2, hce, List.getElem?_eq_getElem (by omega)] at g2
  obtain ⟨z2, e2, _, w2⟩ := DataW.trod_int he g2
  simp at e2
  have g3 := hx 3 f3 rfl
  rw [o3, t3, hce, List.getElem?_eq_getElem (by omega)] at g3
  obtain ⟨z3, e3, _, w3⟩ := DataW.trod_int he g3
  simp at e3
  exact ⟨z0, z1, z2, z3, e0, e1, e2, e3, w0, w1, w2, w3⟩

theorem open_pair {H : Type} {enc : TypeId × Value → H} {P : Program} {w : World} {base : Nat} {sp : Nat → Bool} {held : Bool} {t e : TypeId} {f0 f1 : Field} {c0 c1 : Value} {fuel : Nat} {x : DataW H × List MemPlace}
    (hs : P.underlying t = some (.struct #[f0, f1])) (hf : [f0, f1].map (fun f => (f.offset, f.type)) = [(0, e), (1, e)]) (he : P.underlying e = some (.int .i64)) (hce : P.cellsOf e = 1)
    (h : DataW.trod enc P w base sp held fuel t [c0, c1] = some x) :
    ∃ a0 a1 : Int, c0 = .int .i64 a0 ∧ c1 = .int .i64 a1 ∧ (Lit.int .i64 a0).wf = true ∧ (Lit.int .i64 a1).wf = true := by
  obtain ⟨xs, m, _, _, _, hl, hx⟩ := DataW.trod_struct hs h
  have hl' : xs.length = 2 := hl
  simp only [List.map_cons, List.map_nil, List.cons.injEq, Prod.mk.injEq, and_true] at hf
  obtain ⟨⟨o0, t0⟩, ⟨o1, t1⟩⟩ := hf
  have g0 := hx 0 f0 rfl
  rw [o0, t0, hce, List.getElem?_eq_getElem (by omega)] at g0
  obtain ⟨z0, e0, _, w0⟩ := DataW.trod_int he g0
  simp at e0
  have g1 := hx 1 f1 rfl
  rw [o1, t1, hce, List.getElem?_eq_getElem (by omega)] at g1
  obtain ⟨z1, e1, _, w1⟩ := DataW.trod_int he g1
  simp at e1
  exact ⟨z0, z1, e0, e1, w0, w1⟩

theorem open_paint {H : Type} {enc : TypeId × Value → H} {P : Program} {w : World} {r : Reach} {base b0 : Nat} {sp : Nat → Bool} {held : Bool} {t tc tp e : TypeId} {f0 f1 f2 f3 f4 g0 g1 g2 g3 h0 h1 : Field} {v : Value} {d : DataW H} {p : List MemPlace}
    (hs : P.underlying t = some (.struct #[f0, f1, f2, f3, f4])) (hf : [f0, f1, f2, f3, f4].map (fun f => (f.offset, f.type)) = [(0, e), (1, tc), (5, tc), (9, tp), (11, tp)]) (hcc : P.cellsOf tc = 4) (hcp : P.cellsOf tp = 2) (hC : P.cellsOf t = 13)
    (hb : P.underlying tc = some (.struct #[g0, g1, g2, g3])) (hg : [g0, g1, g2, g3].map (fun f => (f.offset, f.type)) = [(0, e), (1, e), (2, e), (3, e)])
    (hb2 : P.underlying tp = some (.struct #[h0, h1])) (hg2 : [h0, h1].map (fun f => (f.offset, f.type)) = [(0, e), (1, e)]) (he : P.underlying e = some (.int .i64)) (hce : P.cellsOf e = 1)
    (hv : Value.okWide P w r b0 t v) (h : DataW.Trod enc P w base sp held t v d p) :
    ∃ a0 a1 a2 a3 a4 a5 a6 a7 a8 a9 a10 a11 a12 : Int, v = .agg #[.int .i64 a0, .int .i64 a1, .int .i64 a2, .int .i64 a3, .int .i64 a4, .int .i64 a5, .int .i64 a6, .int .i64 a7, .int .i64 a8, .int .i64 a9, .int .i64 a10, .int .i64 a11, .int .i64 a12] ∧ (Lit.int .i64 a0).wf = true ∧ (Lit.int .i64 a1).wf = true ∧ (Lit.int .i64 a2).wf = true ∧ (Lit.int .i64 a3).wf = true ∧ (Lit.int .i64 a4).wf = true ∧ (Lit.int .i64 a5).wf = true ∧ (Lit.int .i64 a6).wf = true ∧ (Lit.int .i64 a7).wf = true ∧ (Lit.int .i64 a8).wf = true ∧ (Lit.int .i64 a9).wf = true ∧ (Lit.int .i64 a10).wf = true ∧ (Lit.int .i64 a11).wf = true ∧ (Lit.int .i64 a12).wf = true := by
  obtain ⟨cs, rfl, hsz⟩ := okWide_struct hs hv
  obtain ⟨c0, c1, c2, c3, c4, c5, c6, c7, c8, c9, c10, c11, c12, rfl⟩ := array_13 (hsz.trans hC)
  obtain ⟨fuel, hh⟩ := h
  obtain ⟨xs, m', _, _, _, hl', hx⟩ := DataW.trod_struct hs hh
  have hl2 : xs.length = 5 := hl'
  simp only [List.map_cons, List.map_nil, List.cons.injEq, Prod.mk.injEq, and_true] at hf
  obtain ⟨⟨q0, r0⟩, ⟨q1, r1⟩, ⟨q2, r2⟩, ⟨q3, r3⟩, ⟨q4, r4⟩⟩ := hf
  have y0 := hx 0 f0 rfl
  rw [q0, r0, hce, List.getElem?_eq_getElem (by omega)] at y0
  obtain ⟨z0, e0, _, w0⟩ := DataW.trod_int he y0
  simp [Value.cells] at e0
  have y1 := hx 1 f1 rfl
  rw [q1, r1, hcc, List.getElem?_eq_getElem (by omega)] at y1
  have y2 := hx 2 f2 rfl
  rw [q2, r2, hcc, List.getElem?_eq_getElem (by omega)] at y2
  have y3 := hx 3 f3 rfl
  rw [q3, r3, hcp, List.getElem?_eq_getElem (by omega)] at y3
  have y4 := hx 4 f4 rfl
  rw [q4, r4, hcp, List.getElem?_eq_getElem (by omega)] at y4
  simp [Value.cells] at y1 y2 y3 y4
  obtain ⟨z1, z2, z3, z4, rfl, rfl, rfl, rfl, w1, w2, w3, w4⟩ := open_quad hb hg he hce y1
  obtain ⟨z5, z6, z7, z8, rfl, rfl, rfl, rfl, w5, w6, w7, w8⟩ := open_quad hb hg he hce y2
  obtain ⟨z9, z10, rfl, rfl, w9, w10⟩ := open_pair hb2 hg2 he hce y3
  obtain ⟨z11, z12, rfl, rfl, w11, w12⟩ := open_pair hb2 hg2 he hce y4
  exact ⟨z0, z1, z2, z3, z4, z5, z6, z7, z8, z9, z10, z11, z12, by rw [e0], w0, w1, w2, w3, w4, w5, w6, w7, w8, w9, w10, w11, w12⟩
end Go.Proofs.Ytdbphpekhmlmdaa

/-
  Nodes and scenes that came in: their cells written out. (By opennode.py.)
-/
namespace Go.Proofs.Ytdbphpekhmlmdaa
open Go.ChangeShapes Go.WideShapes Go.RowKit
set_option linter.unusedVariables false

theorem cells_int : Try.prog.cellsOf 3 = 1 := by kernel_rfl
theorem cells_bool : Try.prog.cellsOf 4 = 1 := by kernel_rfl
theorem cells_mat : Try.prog.cellsOf 85 = 6 := by kernel_rfl
theorem cells_path : Try.prog.cellsOf 88 = 2 := by kernel_rfl
theorem cells_paint : Try.prog.cellsOf 92 = 13 := by kernel_rfl
theorem cells_color : Try.prog.cellsOf 89 = 4 := by kernel_rfl
theorem cells_point : Try.prog.cellsOf 90 = 2 := by kernel_rfl
theorem cells_ints : Try.prog.cellsOf 30 = 1 := by kernel_rfl
theorem cells_pts : Try.prog.cellsOf 86 = 1 := by kernel_rfl
theorem cells_node : Try.prog.cellsOf 94 = 31 := by kernel_rfl
theorem cells_scene : Try.prog.cellsOf 49 = 1 := by kernel_rfl
theorem cells_nodes : Try.prog.cellsOf 47 = 1 := by kernel_rfl

theorem open_mat6 {H : Type} {enc : TypeId × Value → H} {w : World} {base : Nat} {sp : Nat → Bool} {held : Bool} {fuel : Nat} {x : DataW H × List MemPlace} {c0 c1 c2 c3 c4 c5 : Value} (h : DataW.trod enc Try.prog w base sp held fuel 85 [c0, c1, c2, c3, c4, c5] = some x) :
    ∃ a0 a1 a2 a3 a4 a5 : Int, c0 = .int .i64 a0 ∧ c1 = .int .i64 a1 ∧ c2 = .int .i64 a2 ∧ c3 = .int .i64 a3 ∧ c4 = .int .i64 a4 ∧ c5 = .int .i64 a5 := by
  obtain ⟨xs, m, _, _, _, hl, hx⟩ := DataW.trod_struct Try.underlying85 h
  have hl' : xs.length = 6 := hl
  have y0 : DataW.trod enc Try.prog w base sp held m 3 (([c0, c1, c2, c3, c4, c5].drop 0).take (Try.prog.cellsOf 3)) = xs[0]? := hx 0 _ rfl
  rw [cells_int, List.getElem?_eq_getElem (by omega)] at y0
  simp only [List.drop_zero, List.take_succ_cons, List.take_zero] at y0
  obtain ⟨z0, e0, _, _⟩ := DataW.trod_int Try.underlying3 y0
  simp only [List.cons.injEq, and_true] at e0
  have y1 : DataW.trod enc Try.prog w base sp held m 3 (([c0, c1, c2, c3, c4, c5].drop 1).take (Try.prog.cellsOf 3)) = xs[1]? := hx 1 _ rfl
  rw [cells_int, List.getElem?_eq_getElem (by omega)] at y1
  simp only [List.drop_succ_cons, List.drop_zero, List.take_succ_cons, List.take_zero] at y1
  obtain ⟨z1, e1, _, _⟩ := DataW.trod_int Try.underlying3 y1
  simp only [List.cons.injEq, and_true] at e1
  have y2 : DataW.trod enc Try.prog w base sp held m 3 (([c0, c1, c2, c3, c4, c5].drop 2).take (Try.prog.cellsOf 3)) = xs[2]? := hx 2 _ rfl
  rw [cells_int, List.getElem?_eq_getElem (by omega)] at y2
  simp only [List.drop_succ_cons, List.drop_zero, List.take_succ_cons, List.take_zero] at y2
  obtain ⟨z2, e2, _, _⟩ := DataW.trod_int Try.underlying3 y2
  simp only [List.cons.injEq, and_true] at e2
  have y3 : DataW.trod enc Try.prog w base sp held m 3 (([c0, c1, c2, c3, c4, c5].drop 3).take (Try.prog.cellsOf 3)) = xs[3]? := hx 3 _ rfl
  rw [cells_int, List.getElem?_eq_getElem (by omega)] at y3
  simp only [List.drop_succ_cons, List.drop_zero, List.take_succ_cons, List.take_zero] at y3
  obtain ⟨z3, e3, _, _⟩ := DataW.trod_int Try.underlying3 y3
  simp only [List.cons.injEq, and_true] at e3
  have y4 : DataW.trod enc Try.prog w base sp held m 3 (([c0, c1, c2, c3, c4, c5].drop 4).take (Try.prog.cellsOf 3)) = xs[4]? := hx 4 _ rfl
  rw [cells_int, List.getElem?_eq_getElem (by omega)] at y4
  simp only [List.drop_succ_cons, List.drop_zero, List.take_succ_cons, List.take_zero] at y4
  obtain ⟨z4, e4, _, _⟩ := DataW.trod_int Try.underlying3 y4
  simp only [List.cons.injEq, and_true] at e4
  have y5 : DataW.trod enc Try.prog w base sp held m 3 (([c0, c1, c2, c3, c4, c5].drop 5).take (Try.prog.cellsOf 3)) = xs[5]? := hx 5 _ rfl
  rw [cells_int, List.getElem?_eq_getElem (by omega)] at y5
  simp only [List.drop_succ_cons, List.drop_zero, List.take_succ_cons, List.take_zero] at y5
  obtain ⟨z5, e5, _, _⟩ := DataW.trod_int Try.underlying3 y5
  simp only [List.cons.injEq, and_true] at e5
  exact ⟨z0, z1, z2, z3, z4, z5, e0, e1, e2, e3, e4, e5⟩

theorem open_pathT {H : Type} {enc : TypeId × Value → H} {w : World} {base : Nat} {sp : Nat → Bool} {held : Bool} {fuel : Nat} {x : DataW H × List MemPlace} {c0 c1 : Value} (h : DataW.trod enc Try.prog w base sp held fuel 88 [c0, c1] = some x) :
    ∃ (a : Option Addr) (n c : Nat) (vf : Nat → Int) (b : Option Addr) (m d : Nat) (pf : Nat → Int × Int), c0 = .slice a n c ∧ c1 = .slice b m d ∧ n ≤ maxLen ∧ (∀ i, i < n → IntAt w a i (vf i)) ∧ m ≤ maxLen ∧ ∀ i, i < m → PtArg w b i (pf i) := by
  obtain ⟨xs, m, _, _, _, hl, hx⟩ := DataW.trod_struct Try.underlying88 h
  have hl' : xs.length = 2 := hl
  have y0 : DataW.trod enc Try.prog w base sp held m 30 (([c0, c1].drop 0).take (Try.prog.cellsOf 30)) = xs[0]? := hx 0 _ rfl
  rw [cells_ints, List.getElem?_eq_getElem (by omega)] at y0
  simp only [List.drop_zero, List.take_succ_cons, List.take_zero] at y0
  have y1 : DataW.trod enc Try.prog w base sp held m 86 (([c0, c1].drop 1).take (Try.prog.cellsOf 86)) = xs[1]? := hx 1 _ rfl
  rw [cells_pts, List.getElem?_eq_getElem (by omega)] at y1
  simp only [List.drop_succ_cons, List.drop_zero, List.take_succ_cons, List.take_zero] at y1
  obtain ⟨a, n, c, vf, rfl, h1, h2⟩ := open_ilist Try.underlying30 Try.underlying3 cells_int y0
  obtain ⟨b, m, d, pf, rfl, h3, h4⟩ := open_plist Try.underlying86 Try.underlying90 cells_point rfl rfl cells_int cells_int Try.underlying3 Try.underlying3 y1
  exact ⟨a, n, c, vf, b, m, d, pf, rfl, rfl, h1, h2, h3, h4⟩

theorem open_paintT {H : Type} {enc : TypeId × Value → H} {w : World} {base : Nat} {sp : Nat → Bool} {held : Bool} {fuel : Nat} {x : DataW H × List MemPlace} {c0 c1 c2 c3 c4 c5 c6 c7 c8 c9 c10 c11 c12 : Value} (h : DataW.trod enc Try.prog w base sp held fuel 92 [c0, c1, c2, c3, c4, c5, c6, c7, c8, c9, c10, c11, c12] = some x) :
    ∃ a0 a1 a2 a3 a4 a5 a6 a7 a8 a9 a10 a11 a12 : Int, c0 = .int .i64 a0 ∧ c1 = .int .i64 a1 ∧ c2 = .int .i64 a2 ∧ c3 = .int .i64 a3 ∧ c4 = .int .i64 a4 ∧ c5 = .int .i64 a5 ∧ c6 = .int .i64 a6 ∧ c7 = .int .i64 a7 ∧ c8 = .int .i64 a8 ∧ c9 = .int .i64 a9 ∧ c10 = .int .i64 a10 ∧ c11 = .int .i64 a11 ∧ c12 = .int .i64 a12 := by
  obtain ⟨xs, m, _, _, _, hl, hx⟩ := DataW.trod_struct Try.underlying92 h
  have hl' : xs.length = 5 := hl
  have y0 : DataW.trod enc Try.prog w base sp held m 3 (([c0, c1, c2, c3, c4, c5, c6, c7, c8, c9, c10, c11, c12].drop 0).take (Try.prog.cellsOf 3)) = xs[0]? := hx 0 _ rfl
  rw [cells_int, List.getElem?_eq_getElem (by omega)] at y0
  simp only [List.drop_zero, List.take_succ_cons, List.take_zero] at y0
  have y1 : DataW.trod enc Try.prog w base sp held m 89 (([c0, c1, c2, c3, c4, c5, c6, c7, c8, c9, c10, c11, c12].drop 1).take (Try.prog.cellsOf 89)) = xs[1]? := hx 1 _ rfl
  rw [cells_color, List.getElem?_eq_getElem (by omega)] at y1
  simp only [List.drop_succ_cons, List.drop_zero, List.take_succ_cons, List.take_zero] at y1
  have y2 : DataW.trod enc Try.prog w base sp held m 89 (([c0, c1, c2, c3, c4, c5, c6, c7, c8, c9, c10, c11, c12].drop 5).take (Try.prog.cellsOf 89)) = xs[2]? := hx 2 _ rfl
  rw [cells_color, List.getElem?_eq_getElem (by omega)] at y2
  simp only [List.drop_succ_cons, List.drop_zero, List.take_succ_cons, List.take_zero] at y2
  have y3 : DataW.trod enc Try.prog w base sp held m 90 (([c0, c1, c2, c3, c4, c5, c6, c7, c8, c9, c10, c11, c12].drop 9).take (Try.prog.cellsOf 90)) = xs[3]? := hx 3 _ rfl
  rw [cells_point, List.getElem?_eq_getElem (by omega)] at y3
  simp only [List.drop_succ_cons, List.drop_zero, List.take_succ_cons, List.take_zero] at y3
  have y4 : DataW.trod enc Try.prog w base sp held m 90 (([c0, c1, c2, c3, c4, c5, c6, c7, c8, c9, c10, c11, c12].drop 11).take (Try.prog.cellsOf 90)) = xs[4]? := hx 4 _ rfl
  rw [cells_point, List.getElem?_eq_getElem (by omega)] at y4
  simp only [List.drop_succ_cons, List.drop_zero, List.take_succ_cons, List.take_zero] at y4
  obtain ⟨z0, e0, _, _⟩ := DataW.trod_int Try.underlying3 y0
  simp only [List.cons.injEq, and_true] at e0
  obtain ⟨z1, z2, z3, z4, rfl, rfl, rfl, rfl, _⟩ := open_quad Try.underlying89 rfl Try.underlying3 cells_int y1
  obtain ⟨z5, z6, z7, z8, rfl, rfl, rfl, rfl, _⟩ := open_quad Try.underlying89 rfl Try.underlying3 cells_int y2
  obtain ⟨z9, z10, rfl, rfl, _⟩ := open_pair Try.underlying90 rfl Try.underlying3 cells_int y3
  obtain ⟨z11, z12, rfl, rfl, _⟩ := open_pair Try.underlying90 rfl Try.underlying3 cells_int y4
  exact ⟨z0, z1, z2, z3, z4, z5, z6, z7, z8, z9, z10, z11, z12, e0, rfl, rfl, rfl, rfl, rfl, rfl, rfl, rfl, rfl, rfl, rfl, rfl⟩

set_option maxHeartbeats 4000000 in
theorem open_nodeT {H : Type} {enc : TypeId × Value → H} {w : World} {base : Nat} {sp : Nat → Bool} {held : Bool} {fuel : Nat} {x : DataW H × List MemPlace} {c0 c1 c2 c3 c4 c5 c6 c7 c8 c9 c10 c11 c12 c13 c14 c15 c16 c17 c18 c19 c20 c21 c22 c23 c24 c25 c26 c27 c28 c29 c30 : Value} (h : DataW.trod enc Try.prog w base sp held fuel 94 [c0, c1, c2, c3, c4, c5, c6, c7, c8, c9, c10, c11, c12, c13, c14, c15, c16, c17, c18, c19, c20, c21, c22, c23, c24, c25, c26, c27, c28, c29, c30] = some x) :
    ∃ (y : Nd) (s : Na), [c0, c1, c2, c3, c4, c5, c6, c7, c8, c9, c10, c11, c12, c13, c14, c15, c16, c17, c18, c19, c20, c21, c22, c23, c24, c25, c26, c27, c28, c29, c30] = (ndC y s).toList ∧ y.Fit ∧ NdIn w y s := by
  obtain ⟨xs, m, _, _, _, hl, hx⟩ := DataW.trod_struct Try.underlying94 h
  have hl' : xs.length = 12 := hl
  have y0 : DataW.trod enc Try.prog w base sp held m 3 (([c0, c1, c2, c3, c4, c5, c6, c7, c8, c9, c10, c11, c12, c13, c14, c15, c16, c17, c18, c19, c20, c21, c22, c23, c24, c25, c26, c27, c28, c29, c30].drop 0).take (Try.prog.cellsOf 3)) = xs[0]? := hx 0 _ rfl
  rw [cells_int, List.getElem?_eq_getElem (by omega)] at y0
  simp only [List.drop_zero, List.take_succ_cons, List.take_zero] at y0
  have y1 : DataW.trod enc Try.prog w base sp held m 3 (([c0, c1, c2, c3, c4, c5, c6, c7, c8, c9, c10, c11, c12, c13, c14, c15, c16, c17, c18, c19, c20, c21, c22, c23, c24, c25, c26, c27, c28, c29, c30].drop 1).take (Try.prog.cellsOf 3)) = xs[1]? := hx 1 _ rfl
  rw [cells_int, List.getElem?_eq_getElem (by omega)] at y1
  simp only [List.drop_succ_cons, List.drop_zero, List.take_succ_cons, List.take_zero] at y1
  have y2 : DataW.trod enc Try.prog w base sp held m 4 (([c0, c1, c2, c3, c4, c5, c6, c7, c8, c9, c10, c11, c12, c13, c14, c15, c16, c17, c18, c19, c20, c21, c22, c23, c24, c25, c26, c27, c28, c29, c30].drop 2).take (Try.prog.cellsOf 4)) = xs[2]? := hx 2 _ rfl
  rw [cells_bool, List.getElem?_eq_getElem (by omega)] at y2
  simp only [List.drop_succ_cons, List.drop_zero, List.take_succ_cons, List.take_zero] at y2
  have y3 : DataW.trod enc Try.prog w base sp held m 85 (([c0, c1, c2, c3, c4, c5, c6, c7, c8, c9, c10, c11, c12, c13, c14, c15, c16, c17, c18, c19, c20, c21, c22, c23, c24, c25, c26, c27, c28, c29, c30].drop 3).take (Try.prog.cellsOf 85)) = xs[3]? := hx 3 _ rfl
  rw [cells_mat, List.getElem?_eq_getElem (by omega)] at y3
  simp only [List.drop_succ_cons, List.drop_zero, List.take_succ_cons, List.take_zero] at y3
  have y4 : DataW.trod enc Try.prog w base sp held m 88 (([c0, c1, c2, c3, c4, c5, c6, c7, c8, c9, c10, c11, c12, c13, c14, c15, c16, c17, c18, c19, c20, c21, c22, c23, c24, c25, c26, c27, c28, c29, c30].drop 9).take (Try.prog.cellsOf 88)) = xs[4]? := hx 4 _ rfl
  rw [cells_path, List.getElem?_eq_getElem (by omega)] at y4
  simp only [List.drop_succ_cons, List.drop_zero, List.take_succ_cons, List.take_zero] at y4
  have y5 : DataW.trod enc Try.prog w base sp held m 4 (([c0, c1, c2, c3, c4, c5, c6, c7, c8, c9, c10, c11, c12, c13, c14, c15, c16, c17, c18, c19, c20, c21, c22, c23, c24, c25, c26, c27, c28, c29, c30].drop 11).take (Try.prog.cellsOf 4)) = xs[5]? := hx 5 _ rfl
  rw [cells_bool, List.getElem?_eq_getElem (by omega)] at y5
  simp only [List.drop_succ_cons, List.drop_zero, List.take_succ_cons, List.take_zero] at y5
  have y6 : DataW.trod enc Try.prog w base sp held m 3 (([c0, c1, c2, c3, c4, c5, c6, c7, c8, c9, c10, c11, c12, c13, c14, c15, c16, c17, c18, c19, c20, c21, c22, c23, c24, c25, c26, c27, c28, c29, c30].drop 12).take (Try.prog.cellsOf 3)) = xs[6]? := hx 6 _ rfl
  rw [cells_int, List.getElem?_eq_getElem (by omega)] at y6
  simp only [List.drop_succ_cons, List.drop_zero, List.take_succ_cons, List.take_zero] at y6
  have y7 : DataW.trod enc Try.prog w base sp held m 30 (([c0, c1, c2, c3, c4, c5, c6, c7, c8, c9, c10, c11, c12, c13, c14, c15, c16, c17, c18, c19, c20, c21, c22, c23, c24, c25, c26, c27, c28, c29, c30].drop 13).take (Try.prog.cellsOf 30)) = xs[7]? := hx 7 _ rfl
  rw [cells_ints, List.getElem?_eq_getElem (by omega)] at y7
  simp only [List.drop_succ_cons, List.drop_zero, List.take_succ_cons, List.take_zero] at y7
  have y8 : DataW.trod enc Try.prog w base sp held m 92 (([c0, c1, c2, c3, c4, c5, c6, c7, c8, c9, c10, c11, c12, c13, c14, c15, c16, c17, c18, c19, c20, c21, c22, c23, c24, c25, c26, c27, c28, c29, c30].drop 14).take (Try.prog.cellsOf 92)) = xs[8]? := hx 8 _ rfl
  rw [cells_paint, List.getElem?_eq_getElem (by omega)] at y8
  simp only [List.drop_succ_cons, List.drop_zero, List.take_succ_cons, List.take_zero] at y8
  have y9 : DataW.trod enc Try.prog w base sp held m 3 (([c0, c1, c2, c3, c4, c5, c6, c7, c8, c9, c10, c11, c12, c13, c14, c15, c16, c17, c18, c19, c20, c21, c22, c23, c24, c25, c26, c27, c28, c29, c30].drop 27).take (Try.prog.cellsOf 3)) = xs[9]? := hx 9 _ rfl
  rw [cells_int, List.getElem?_eq_getElem (by omega)] at y9
  simp only [List.drop_succ_cons, List.drop_zero, List.take_succ_cons, List.take_zero] at y9
  have y10 : DataW.trod enc Try.prog w base sp held m 3 (([c0, c1, c2, c3, c4, c5, c6, c7, c8, c9, c10, c11, c12, c13, c14, c15, c16, c17, c18, c19, c20, c21, c22, c23, c24, c25, c26, c27, c28, c29, c30].drop 28).take (Try.prog.cellsOf 3)) = xs[10]? := hx 10 _ rfl
  rw [cells_int, List.getElem?_eq_getElem (by omega)] at y10
  simp only [List.drop_succ_cons, List.drop_zero, List.take_succ_cons, List.take_zero] at y10
  have y11 : DataW.trod enc Try.prog w base sp held m 88 (([c0, c1, c2, c3, c4, c5, c6, c7, c8, c9, c10, c11, c12, c13, c14, c15, c16, c17, c18, c19, c20, c21, c22, c23, c24, c25, c26, c27, c28, c29, c30].drop 29).take (Try.prog.cellsOf 88)) = xs[11]? := hx 11 _ rfl
  rw [cells_path, List.getElem?_eq_getElem (by omega)] at y11
  simp only [List.drop_succ_cons, List.drop_zero, List.take_succ_cons, List.take_zero] at y11
  obtain ⟨z0, e0, _, W0⟩ := DataW.trod_int Try.underlying3 y0
  obtain ⟨z1, e1, _, W1⟩ := DataW.trod_int Try.underlying3 y1
  obtain ⟨z2, e2, _⟩ := DataW.trod_bool Try.underlying4 y2
  obtain ⟨m0, m1, m2, m3, m4, m5, rfl, rfl, rfl, rfl, rfl, rfl⟩ := open_mat6 y3
  obtain ⟨av, nv, cv, vf, ap, np, cp, pf, rfl, rfl, v1, v2, p1, p2⟩ := open_pathT y4
  obtain ⟨z5, e5, _⟩ := DataW.trod_bool Try.underlying4 y5
  obtain ⟨z6, e6, _, _⟩ := DataW.trod_int Try.underlying3 y6
  obtain ⟨ad, nd, cd, df, rfl, d1, d2⟩ := open_ilist Try.underlying30 Try.underlying3 cells_int y7
  obtain ⟨k0, k1, k2, k3, k4, k5, k6, k7, k8, k9, k10, k11, k12, rfl, rfl, rfl, rfl, rfl, rfl, rfl, rfl, rfl, rfl, rfl, rfl, rfl⟩ := open_paintT y8
  obtain ⟨z9, e9, _, _⟩ := DataW.trod_int Try.underlying3 y9
  obtain ⟨z10, e10, _, _⟩ := DataW.trod_int Try.underlying3 y10
  obtain ⟨bv, mv, dv, wf, bp, mp, dp, qf, rfl, rfl, w1, w2, q1, q2⟩ := open_pathT y11
  simp only [List.cons.injEq, and_true] at e0 e1 e2 e5 e6 e9 e10
  subst e0 e1 e2 e5 e6 e9 e10
  exact ⟨⟨z0, z1, z2, m0, m1, m2, m3, m4, m5, nv, vf, np, pf, z5, z6, nd, df, ⟨k0, ⟨k1, k2, k3, k4⟩, ⟨k5, k6, k7, k8⟩, k9, k10, k11, k12⟩, z9, z10, mv, wf, mp, qf⟩, ⟨av, cv, ap, cp, ad, cd, bv, dv, bp, dp⟩, rfl, ⟨v1, p1, d1, w1, q1, W0, W1⟩, ⟨v2, p2, d2, w2, q2⟩⟩

theorem list_31 {α : Type} {l : List α} (h : l.length = 31) : ∃ c0 c1 c2 c3 c4 c5 c6 c7 c8 c9 c10 c11 c12 c13 c14 c15 c16 c17 c18 c19 c20 c21 c22 c23 c24 c25 c26 c27 c28 c29 c30, l = [c0, c1, c2, c3, c4, c5, c6, c7, c8, c9, c10, c11, c12, c13, c14, c15, c16, c17, c18, c19, c20, c21, c22, c23, c24, c25, c26, c27, c28, c29, c30] := by
  match l, h with
  | [c0, c1, c2, c3, c4, c5, c6, c7, c8, c9, c10, c11, c12, c13, c14, c15, c16, c17, c18, c19, c20, c21, c22, c23, c24, c25, c26, c27, c28, c29, c30], _ => exact ⟨c0, c1, c2, c3, c4, c5, c6, c7, c8, c9, c10, c11, c12, c13, c14, c15, c16, c17, c18, c19, c20, c21, c22, c23, c24, c25, c26, c27, c28, c29, c30, rfl⟩
theorem open_nodeP {H : Type} {enc : TypeId × Value → H} {P : Program} {w : World} {r : Reach} {base b0 : Nat} {sp : Nat → Bool} {held : Bool} {t : TypeId} {fs : Array Field} {v : Value} {d : DataW H} {p : List MemPlace} (hs : P.underlying t = some (.struct fs)) (ce : P.cellsOf t = 31)
    (hN : ∀ (fuel : Nat) (l : List Value) (x : DataW H × List MemPlace), l.length = 31 → DataW.trod enc P w base sp held fuel t l = some x → ∃ (y : Nd) (s : Na), l = (ndC y s).toList ∧ y.Fit ∧ NdIn w y s)
    (hv : Value.okWide P w r b0 t v) (h : DataW.Trod enc P w base sp held t v d p) : ∃ (y : Nd) (s : Na), v = .agg (ndC y s) ∧ y.Fit ∧ NdIn w y s := by
  obtain ⟨cs, rfl, hsz⟩ := okWide_struct hs hv
  obtain ⟨fuel, hh⟩ := h
  have hlen : cs.toList.length = 31 := Array.length_toList.trans (hsz.trans ce)
  change DataW.trod enc P w base sp held fuel t cs.toList = _ at hh
  obtain ⟨y, s, h1, h2, h3⟩ := hN _ _ _ hlen hh
  refine ⟨y, s, ?_, h2, h3⟩
  congr 1
  exact Array.toList_inj.1 h1
instance : Inhabited Nd := ⟨⟨0, 0, false, 0, 0, 0, 0, 0, 0, 0, fun _ => 0, 0, fun _ => (0, 0), false, 0, 0, fun _ => 0, ⟨0, ⟨0, 0, 0, 0⟩, ⟨0, 0, 0, 0⟩, 0, 0, 0, 0⟩, 0, 0, 0, fun _ => 0, 0, fun _ => (0, 0)⟩⟩
instance : Inhabited Na := ⟨⟨none, 0, none, 0, none, 0, none, 0, none, 0⟩⟩
theorem open_nodesP {H : Type} {enc : TypeId × Value → H} {P : Program} {w : World} {base : Nat} {sp : Nat → Bool} {held : Bool} {fuel : Nat} {x : DataW H × List MemPlace} {t e : TypeId} {a : Option Addr} {n c : Nat} (ht : P.underlying t = some (.slice e)) (ce : P.cellsOf e = 31)
    (hN : ∀ (fuel : Nat) (l : List Value) (x : DataW H × List MemPlace), l.length = 31 → DataW.trod enc P w base sp held fuel e l = some x → ∃ (y : Nd) (s : Na), l = (ndC y s).toList ∧ y.Fit ∧ NdIn w y s)
    (h : DataW.trod enc P w base sp held fuel t [.slice a n c] = some x) :
    ∃ (X : Nat → Nd) (A : Nat → Na), n ≤ maxLen ∧ (∀ i, i < n → (X i).Fit) ∧ ∀ i, i < n → NrAt w a i (X i) (A i) := by
  rcases Go.Deep.open_slice ht h with ⟨hcs, _⟩ | ⟨b, len, cap, m, q, D, Pl, hcs, _, hl, hm, hmm, _, hx⟩
  · simp at hcs
    obtain ⟨rfl, rfl, rfl⟩ := hcs
    exact ⟨fun _ => default, fun _ => default, by unfold maxLen; omega, fun i hi => absurd hi (by omega), fun i hi => absurd hi (by omega)⟩
  · simp at hcs
    obtain ⟨rfl, rfl, rfl⟩ := hcs
    have hnm : n ≤ m := by rw [hmm]; split <;> omega
    have each : ∀ i, i < n → ∃ p : Nd × Na, p.1.Fit ∧ NrAt w (some b) i p.1 p.2 := by
      intro i hi
      have hs : b.spot = none := by
        obtain ⟨cs0, h1, _⟩ := hx 0 (by omega)
        rw [ce] at h1
        obtain ⟨_, hlen, hcell⟩ := World.cells?_some h1
        have := World.cell?_spot ((hcell 0 (by omega)).trans (List.getElem?_eq_getElem (by omega)))
        simpa [Addr.add] using this
      obtain ⟨bb, off, spot⟩ := b
      dsimp only at hs
      subst hs
      obtain ⟨cs', h1, h2⟩ := hx i (by omega)
      rw [ce, Addr.add_mid] at h1
      obtain ⟨_, hlen, hcell⟩ := World.cells?_some h1
      obtain ⟨y, s, g1, g2, g3⟩ := hN _ _ _ hlen h2
      refine ⟨(y, s), g2, bb, off, rfl, fun j v hv => ?_, g3⟩
      have hj : j < 31 := (Array.getElem?_eq_some_iff.1 hv).1
      have hc := hcell j hj
      rw [Addr.add_mid] at hc
      rw [hc, g1, Array.getElem?_toList]
      exact hv
    obtain ⟨f, hf⟩ := Go.Deep.choose_lt each
    exact ⟨fun i => (f i).1, fun i => (f i).2, by omega, fun i hi => (hf i hi).1, fun i hi => (hf i hi).2⟩
theorem open_nodeL {H : Type} {enc : TypeId × Value → H} {w : World} {base : Nat} {sp : Nat → Bool} {held : Bool} {fuel : Nat} {x : DataW H × List MemPlace} {l : List Value} (hlen : l.length = 31) (h : DataW.trod enc Try.prog w base sp held fuel 94 l = some x) : ∃ (y : Nd) (s : Na), l = (ndC y s).toList ∧ y.Fit ∧ NdIn w y s := by
  obtain ⟨c0, c1, c2, c3, c4, c5, c6, c7, c8, c9, c10, c11, c12, c13, c14, c15, c16, c17, c18, c19, c20, c21, c22, c23, c24, c25, c26, c27, c28, c29, c30, rfl⟩ := list_31 hlen
  exact open_nodeT h
theorem open_nodes {H : Type} {enc : TypeId × Value → H} {w : World} {base : Nat} {sp : Nat → Bool} {held : Bool} {fuel : Nat} {x : DataW H × List MemPlace} {a : Option Addr} {n c : Nat} (h : DataW.trod enc Try.prog w base sp held fuel 47 [.slice a n c] = some x) :
    ∃ (X : Nat → Nd) (A : Nat → Na), n ≤ maxLen ∧ (∀ i, i < n → (X i).Fit) ∧ ∀ i, i < n → NrAt w a i (X i) (A i) :=
  open_nodesP Try.underlying47 cells_node (fun _ _ _ h1 h2 => open_nodeL h1 h2) h
theorem open_sceneP {H : Type} {enc : TypeId × Value → H} {P : Program} {w : World} {r : Reach} {base b0 : Nat} {sp : Nat → Bool} {held : Bool} {t ts e : TypeId} {f0 : Field} {v : Value} {d : DataW H} {p : List MemPlace} (hs : P.underlying t = some (.struct #[f0])) (hf : (f0.offset, f0.type) = (0, ts)) (hl : P.underlying ts = some (.slice e)) (hc : P.cellsOf t = 1) (hc1 : P.cellsOf ts = 1) (ce : P.cellsOf e = 31)
    (hN : ∀ (fuel : Nat) (l : List Value) (x : DataW H × List MemPlace), l.length = 31 → DataW.trod enc P w base sp held fuel e l = some x → ∃ (y : Nd) (s : Na), l = (ndC y s).toList ∧ y.Fit ∧ NdIn w y s)
    (hv : Value.okWide P w r b0 t v) (h : DataW.Trod enc P w base sp held t v d p) :
    ∃ (a : Option Addr) (n c : Nat) (X : Nat → Nd) (A : Nat → Na), v = .agg #[.slice a n c] ∧ n ≤ maxLen ∧ (∀ i, i < n → (X i).Fit) ∧ ∀ i, i < n → NrAt w a i (X i) (A i) := by
  obtain ⟨cs, rfl, hsz⟩ := okWide_struct hs hv
  have hlen : cs.toList.length = 1 := Array.length_toList.trans (hsz.trans hc)
  obtain ⟨fuel, hh⟩ := h
  change DataW.trod enc P w base sp held fuel t cs.toList = _ at hh
  obtain ⟨l⟩ := cs
  match l, hlen with
  | [c0], _ =>
    obtain ⟨xs, m, _, _, _, hl', hx⟩ := DataW.trod_struct hs hh
    have hl2 : xs.length = 1 := hl'
    have y0 := hx 0 f0 rfl
    rw [(Prod.mk.inj hf).1, (Prod.mk.inj hf).2, hc1, List.getElem?_eq_getElem (by omega)] at y0
    simp only [List.drop_zero, List.take_succ_cons, List.take_zero] at y0
    rcases Go.Deep.open_slice hl y0 with ⟨hcs, _⟩ | ⟨b, len, cap, m, q, D, Pl, hcs, _⟩
    · simp at hcs
      subst hcs
      obtain ⟨X, A, h1, h2, h3⟩ := open_nodesP hl ce hN y0
      exact ⟨_, _, _, X, A, rfl, h1, h2, h3⟩
    · simp at hcs
      subst hcs
      obtain ⟨X, A, h1, h2, h3⟩ := open_nodesP hl ce hN y0
      exact ⟨_, _, _, X, A, rfl, h1, h2, h3⟩
end Go.Proofs.Ytdbphpekhmlmdaa
