/-
  SetS: texts of one claim, in one.
-/
import Derived.Test.YtmafopckplpajaaGreatDoorFnExactPlaceNodeM10
import Derived.Test.YtmafopckplpajaaGreatDoorFnExactPlaceNodeM13

/-
  The specification's SetNode. (By changet.py.)
-/
namespace Go.Proofs.YtmafopckplpajaaGreatDoor
open Go.RowKit
set_option linter.unusedVariables false

theorem set_no {X : Nat → Nd} {n : Nat} {x : Nd} {c : Int} (h : setC16 X n x = c) (hc : c ≠ 0) : setC16 X n x = c ∧ setX X n x = X := ⟨h, if_neg (by rw [h]; exact hc)⟩
theorem set_yes {X : Nat → Nd} {n k : Nat} {x : Nd} (h : setC16 X n x = 0) (hk : firstN X x.id n = (k : Int)) : setC16 X n x = 0 ∧ setX X n x = upd X k (x.withPar (X k).par) := ⟨h, by unfold setX; rw [if_pos h, hk]; rfl⟩

theorem sg_setn {u : World} {base T n c b j : Nat} {p : Option Addr} {v : Value} {X : Nat → Nd} {A : Nat → Na} (h : SG u base T p n c X A) (hb : T ≤ b) : SG (u.setCell ⟨b, j, none⟩ v) base T p n c X A :=
  let ⟨ys, h1, h2⟩ := h.row; ⟨⟨ys, own_setc_ne h1 (fun k e => by have := h.apt.row k e; omega), h2⟩, fun i hi l hl => let ⟨xs, a1, a2⟩ := h.own i hi l hl; ⟨xs, own_setc_ne a1 (fun k e => by have := (h.apt.blk i hi l hl k e).1; omega), a2⟩, h.apt⟩
theorem nd_setn {u : World} {base b j : Nat} {v : Value} {x : Nd} {s : Na} (h : NdG u base x s) (hb : ∀ l, l < 5 → ∀ q, (lvl x s l).ownBlock = some q → q < b) : NdG (u.setCell ⟨b, j, none⟩ v) base x s :=
  ⟨fun l hl => let ⟨xs, a1, a2⟩ := h.own l hl; ⟨xs, own_setc_ne a1 (fun k e => by have := hb l hl k e; omega), a2⟩, h.inj⟩

set_option maxHeartbeats 16000000 in
set_option maxRecDepth 100000 in
theorem specSetNode_any (X : Nat → Nd) (A : Nat → Na) (ao : Option Addr) (n cp : Nat) (hn : n ≤ 1048576) (hs : ∀ i, i < n → (X i).Small) (hk : ∀ i, i < n → Caps (X i) (A i)) (x : Nd) (s : Na) (hx : x.Small) (hxc : Caps x s) (w : World) (P : ∀ i, i < n → NrAt w ao i (X i) (A i)) (H : NdIn w x s) :
    Calls Tryz.prog 25 #[.agg #[.slice ao n cp], .agg (ndC x s)] w fun r w' => ChRes w r w' (setC16 X n x) n (setX X n x) := by
  have EC := hide (fun u (hu : Below w.heap.size w u) => specCopy_any X A ao n cp (by omega) hs hk u (fun i hi => (P i hi).next hu))
  have ES := hide (fun u (hu : Below w.heap.size w u) => specSceneOk_any X A ao n cp (by omega) hs u (fun i hi => (P i hi).next hu))
  have EO := hide (fun u (hu : Below w.heap.size w u) => specNodeOk_c x s hx u (H.next hu))
  have EA := hide (fun u (hu : Below w.heap.size w u) => specNodeAt_any X A ao n cp (by omega) x.id u (fun i hi => (P i hi).next hu))
  have EI := hide (fun u (hu : Below w.heap.size w u) => (specKidsOf_any X A ao n cp (by omega) x.id u (fun i hi => (P i hi).next hu)).mono fun _ _ h => ids_len h)
  have EN := hide (fun u (hu : Below w.heap.size w u) => specCopyNode_any x s hx hxc u (H.next hu))
  replace P := hide P
  replace H := hide H
  clear hs hk hx hxc
  have hC1 := hide (show setC16 X n x = if ¬ (sceneOkB X n = true ∧ nodeOkB x = true) then 1 else if firstN X x.id n < 0 then 2 else if x.gr = false ∧ 0 < (kidsL X n x.id).length then 1 else 0 from rfl)
  go_enter Tryz.func25, Tryz.ntmps25
  go_upto_region 1 with fail
  have R1 := hide (al3_0 w (.cells #[.slice ao n cp] 26) (.cells (ndC x s) 41) (.cells #[.slice none 0 0] 26))
  have R2 := hide (al3_1 w (.cells #[.slice ao n cp] 26) (.cells (ndC x s) 41) (.cells #[.slice none 0 0] 26))
  have R4 := hide (al3_2 w (.cells #[.slice ao n cp] 26) (.cells (ndC x s) 41) (.cells #[.slice none 0 0] 26))
  have HB := hide (al3_below w (.cells #[.slice ao n cp] 26) (.cells (ndC x s) 41) (.cells #[.slice none 0 0] 26))
  obtain ⟨b4, hb4⟩ : ∃ b, Hid (b = w.heap.size + 1 + 1) := ⟨_, rfl⟩
  obtain ⟨b2, hb2⟩ : ∃ b, Hid (b = w.heap.size + 1) := ⟨_, rfl⟩
  obtain ⟨b1, hb1⟩ : ∃ b, Hid (b = w.heap.size) := ⟨_, rfl⟩
  rw [← unhide hb4] at R4
  rw [← unhide hb2] at R2
  rw [← unhide hb1] at R1
  rw [← unhide hb4, ← unhide hb2, ← unhide hb1]
  have lb := hide (show w.heap.size ≤ b1 ∧ b1 < b2 ∧ b2 < b4 by rw [unhide hb4, unhide hb2, unhide hb1]; omega)
  generalize ((w.alloc (.cells #[.slice ao n cp] 26)).alloc (.cells (ndC x s) 41)).alloc (.cells #[.slice none 0 0] 26) = W at R1 R2 R4 HB ⊢
  clear hb1 hb2 hb4
  -- the copy
  have c0 := row1 (unhide R1)
  obtain ⟨B0, hB0⟩ : ∃ B, Hid (B = W.heap.size) := ⟨_, rfl⟩
  have l4 := hide (show b4 < B0 by rw [unhide hB0]; exact heap_lt (unhide R4))
  go_wp2_with fail
  go_fit (unhide EC _ (unhide HB))
  rintro r u1 ⟨p, c, A', rfl, SGk, hb⟩
  have SGk := hide (show SG u1 B0 u1.heap.size p n c X A' by rw [unhide hB0]; exact SGk)
  replace R1 := hide (row_next hb (unhide R1))
  replace R2 := hide (row_next hb (unhide R2))
  replace R4 := hide (row_next hb (unhide R4))
  replace HB := hide (below_two (unhide HB) hb)
  have lB := hide (show B0 ≤ u1.heap.size by rw [unhide hB0]; exact hb.size)
  clear hb c0
  go_upto_region 2 with fail
  have R6 := hide (new_row u1 (.cells #[.slice p n c] 26))
  have hb := al1_below u1 (.cells #[.slice p n c] 26)
  replace R1 := hide (row_next hb (unhide R1))
  replace R2 := hide (row_next hb (unhide R2))
  replace R4 := hide (row_next hb (unhide R4))
  replace HB := hide (below_two (unhide HB) hb)
  replace SGk := hide ((unhide SGk).next hb)
  have lT := hide (show u1.heap.size ≤ (u1.alloc (.cells #[.slice p n c] 26)).heap.size from hb.size)
  clear hb
  generalize u1.alloc (.cells #[.slice p n c] 26) = U at R1 R2 R4 R6 HB SGk lT ⊢
  generalize u1.heap.size = b6 at R6 SGk lB lT ⊢
  have lR := hide (show w.heap.size ≤ b1 ∧ b1 < b2 ∧ b2 < b4 ∧ b4 < B0 ∧ B0 ≤ b6 by have := unhide lb; have := unhide l4; have := unhide lB; omega)
  have lB0 := hide (show w.heap.size ≤ B0 by have := unhide lR; omega)
  clear EC
  have c0 := row1 (unhide R1)
  have F := hide (unhide ES _ (unhide HB))
  go_wp2_with fail
  go_fit (unhide F)
  rintro r u2 ⟨rfl, hb⟩
  clear c0 F ES
  replace R1 := hide (row_next hb (unhide R1))
  replace R2 := hide (row_next hb (unhide R2))
  replace R4 := hide (row_next hb (unhide R4))
  replace R6 := hide (row_next hb (unhide R6))
  replace HB := hide (below_two (unhide HB) hb)
  replace SGk := hide ((unhide SGk).next hb)
  replace lT := hide (Nat.le_trans (unhide lT) hb.size)
  clear hb
  cases hok : sceneOkB X n with
  | false =>
    have hM0 := hide (show setC16 X n x = 1 ∧ setX X n x = X from set_no (by rw [unhide hC1, if_pos (by rw [hok]; simp)]) (by decide))
    clear hok
    have c6 := row1 (unhide R6)
    have c4 := row1 (unhide R4)
    have f4 := frozen_of_row _ b4 0 _ _ (unhide R4)
    have n6 : ¬ b4 = b6 := by have := unhide lR; omega
    go_wp2_with fail
    exact bodyPost_ret (v := .tuple #[.agg #[.slice p n c], .int .i64 1]) (by simp [results, Tryz.results25, go_sem, c4]) rfl (by obtain ⟨e0, e1⟩ := unhide hM0; rw [e0, e1]; exact ⟨p, c, A', rfl, (sgHigh (((unhide SGk).setk (j := 0) (v := .slice p n c) (unhide R4)).low (unhide lB0)) (by simpa [World.setCell] using unhide lT)), (unhide HB).setCell (p := ⟨b4, 0, none⟩) (by have := unhide lR; dsimp only; omega) _⟩)
  | true =>
    rw [hok] at hC1
    clear hok
    go_wp2_with (refine load_own_g (by rfl) _ rfl b2 rfl x s 41 (unhide R2) ?_)
    go_fit (unhide EO _ (unhide HB))
    rintro r u3 ⟨rfl, hb⟩
    clear EO
    replace R1 := hide (row_next hb (unhide R1))
    replace R2 := hide (row_next hb (unhide R2))
    replace R4 := hide (row_next hb (unhide R4))
    replace R6 := hide (row_next hb (unhide R6))
    replace HB := hide (below_two (unhide HB) hb)
    replace SGk := hide ((unhide SGk).next hb)
    replace lT := hide (Nat.le_trans (unhide lT) hb.size)
    clear hb
    cases hok : nodeOkB x with
    | false =>
      have hM0 := hide (show setC16 X n x = 1 ∧ setX X n x = X from set_no (by rw [unhide hC1, if_pos (by rw [hok]; simp)]) (by decide))
      clear hok
      have c6 := row1 (unhide R6)
      have c4 := row1 (unhide R4)
      have f4 := frozen_of_row _ b4 0 _ _ (unhide R4)
      have n6 : ¬ b4 = b6 := by have := unhide lR; omega
      go_wp2_with fail
      exact bodyPost_ret (v := .tuple #[.agg #[.slice p n c], .int .i64 1]) (by simp [results, Tryz.results25, go_sem, c4]) rfl (by obtain ⟨e0, e1⟩ := unhide hM0; rw [e0, e1]; exact ⟨p, c, A', rfl, (sgHigh (((unhide SGk).setk (j := 0) (v := .slice p n c) (unhide R4)).low (unhide lB0)) (by simpa [World.setCell] using unhide lT)), (unhide HB).setCell (p := ⟨b4, 0, none⟩) (by have := unhide lR; dsimp only; omega) _⟩)
    | true =>
      rw [hok, if_neg (by simp)] at hC1
      clear hok
      have c0 := row1 (unhide R1)
      obtain ⟨d0, d1, d2⟩ := headsC (unhide R2)
      have F := hide (unhide EA _ (unhide HB))
      go_wp2_with fail
      go_fit (unhide F)
      rintro r u4 ⟨rfl, hb⟩
      clear F c0 d0 d1 d2 EA
      replace R1 := hide (row_next hb (unhide R1))
      replace R2 := hide (row_next hb (unhide R2))
      replace R4 := hide (row_next hb (unhide R4))
      replace R6 := hide (row_next hb (unhide R6))
      replace HB := hide (below_two (unhide HB) hb)
      replace SGk := hide ((unhide SGk).next hb)
      replace lT := hide (Nat.le_trans (unhide lT) hb.size)
      clear hb
      rcases first_is (X := X) (id := x.id) n with ⟨e, _⟩ | ⟨k, hk, e, _, _⟩
      · have hM0 := hide (show setC16 X n x = 2 ∧ setX X n x = X from set_no (by rw [unhide hC1, if_pos (by omega)]) (by decide))
        rw [e]
        clear e
        have c6 := row1 (unhide R6)
        have c4 := row1 (unhide R4)
        have f4 := frozen_of_row _ b4 0 _ _ (unhide R4)
        have n6 : ¬ b4 = b6 := by have := unhide lR; omega
        go_wp2_with fail
        exact bodyPost_ret (v := .tuple #[.agg #[.slice p n c], .int .i64 2]) (by simp [results, Tryz.results25, go_sem, c4]) rfl (by obtain ⟨e0, e1⟩ := unhide hM0; rw [e0, e1]; exact ⟨p, c, A', rfl, (sgHigh (((unhide SGk).setk (j := 0) (v := .slice p n c) (unhide R4)).low (unhide lB0)) (by simpa [World.setCell] using unhide lT)), (unhide HB).setCell (p := ⟨b4, 0, none⟩) (by have := unhide lR; dsimp only; omega) _⟩)
      · rw [if_neg (by omega)] at hC1
        have hKK := hide e
        rw [e]
        clear e
        have hk0' : ¬ (k : Int) < 0 := by omega
        obtain ⟨d0, d1, d2⟩ := headsC (unhide R2)
        have c0 := row1 (unhide R1)
        cases hg : x.gr with
        | true =>
          rw [hg] at d2
          have hM1 := hide (set_yes (show setC16 X n x = 0 by rw [unhide hC1, if_neg (by rw [hg]; simp)]) (unhide hKK))
          go_upto_region 9 with fail
          clear d0 d1 d2 c0 hg hk0'
          have F := hide (unhide EN _ (unhide HB))
          go_wp2_with (refine load_own rfl _ rfl b2 rfl x s 41 (unhide R2) ?_)
          go_fit (unhide F)
          rintro r u7 ⟨s', rfl, hx, hb⟩
          have hsz := hide (show b6 ≤ u4.heap.size from unhide lT)
          replace hx := hide hx
          clear F
          have sz7 := hide (show u4.heap.size ≤ u7.heap.size from hb.size)
          have hx8 := hide (show ∀ l, l < 5 → ∀ q, (lvl x s' l).ownBlock = some q → q < u7.heap.size from fun l hl q e => (((unhide hx).own l hl).lt q e).2)
          replace R1 := hide (row_next hb (unhide R1))
          replace R2 := hide (row_next hb (unhide R2))
          replace R4 := hide (row_next hb (unhide R4))
          replace R6 := hide (row_next hb (unhide R6))
          replace HB := hide (below_two (unhide HB) hb)
          replace SGk := hide ((unhide SGk).next hb)
          replace lT := hide (Nat.le_trans (unhide lT) hb.size)
          clear hb
          go_upto_region 10 with (with_reducible refine store_new rfl _ _ rfl _ x s' rfl rfl rfl ?_)
          have R8 := hide (new_row u7 (.cells (ndC x s') 41))
          have hb := al1_below u7 (.cells (ndC x s') 41)
          replace hx := hide ((unhide hx).next hb)
          replace R1 := hide (row_next hb (unhide R1))
          replace R2 := hide (row_next hb (unhide R2))
          replace R4 := hide (row_next hb (unhide R4))
          replace R6 := hide (row_next hb (unhide R6))
          replace HB := hide (below_two (unhide HB) hb)
          replace SGk := hide ((unhide SGk).next hb)
          replace lT := hide (Nat.le_trans (unhide lT) hb.size)
          clear hb
          have l8 := hide (show b6 ≤ u7.heap.size ∧ u4.heap.size ≤ u7.heap.size from ⟨Nat.le_trans (unhide hsz) (unhide sz7), unhide sz7⟩)
          generalize u7.alloc (.cells (ndC x s') 41) = U8 at R1 R2 R4 R6 R8 HB SGk lT hx ⊢
          generalize u7.heap.size = b8 at R8 l8 sz7 hx8 ⊢
          obtain ⟨d0, d1, d2⟩ := headsC (unhide R8)
          have f1 := frozen_of_row U8 b8 1 _ _ (unhide R8)
          obtain ⟨b, o, hao, g0, g1, g2⟩ := ((unhide P k hk).next (unhide HB)).heads
          subst hao
          have c0 := row1 (unhide R1)
          have hk0 : ¬ (k : Int) < 0 := by omega
          have hkn : (k : Int) < (n : Int) := by omega
          go_upto_region 11 with fail
          clear d0 d1 d2 f1 g0 g1 g2 c0
          have n68 : Hid (b6 ≠ b8) := fun e => by
            have h1 := unhide R6
            rw [e, unhide R8] at h1
            cases h1
          replace R8 := hide (setC (j := 1) (v := .int .i64 (X k).par) (unhide R8))
          rw [ndC_par] at R8
          have lR8 := hide (show w.heap.size ≤ b8 ∧ b1 ≠ b8 ∧ b2 ≠ b8 ∧ b4 ≠ b8 ∧ B0 ≤ b8 by have := unhide lR; have := unhide l8; omega)
          replace R1 := hide (setc_other (b := b8) (j := 1) (v := .int .i64 (X k).par) (unhide lR8).2.1 (unhide R1))
          replace R4 := hide (setc_other (b := b8) (j := 1) (v := .int .i64 (X k).par) (unhide lR8).2.2.2.1 (unhide R4))
          replace R6 := hide (setc_other (b := b8) (j := 1) (v := .int .i64 (X k).par) (unhide n68) (unhide R6))
          replace HB := hide ((unhide HB).setCell (p := ⟨b8, 1, none⟩) (unhide lR8).1 (.int .i64 (X k).par))
          replace SGk := hide (show SG (U8.setCell ⟨b8, 1, none⟩ (.int .i64 (X k).par)) B0 b6 p n c X A' from sg_setn (unhide SGk) (unhide l8).1)
          replace hx := hide (show NdG (U8.setCell ⟨b8, 1, none⟩ (.int .i64 (X k).par)) u4.heap.size (x.withPar (X k).par) s' from (nd_setn (unhide hx) (unhide hx8)).withPar _)
          generalize U8.setCell ⟨b8, 1, none⟩ (.int .i64 (X k).par) = U9 at R1 R4 R6 R8 HB SGk hx ⊢
          obtain ⟨ys, y1, _⟩ := (unhide SGk).row
          obtain ⟨g, c', e, hg0, hg1⟩ := own_at y1 (by omega)
          cases e
          have hth := hide (own_there y1 hk)
          have hg6 := hide (own_ty y1 (unhide R6) (by decide) g rfl)
          have hg4 := hide (own_ty y1 (unhide R4) (by decide) g rfl)
          replace hg0 := hide hg0
          have hSG := hide ((unhide SGk).put (k := k) hk (show B0 ≤ u4.heap.size by have := unhide lR; have := unhide hsz; omega) (unhide hsz) (unhide hx))
          clear y1 SGk
          have c6 := row1 (unhide R6)
          go_upto_region 12 with (first | refine load_own rfl _ rfl b8 rfl (x.withPar (X k).par) s' 41 (unhide R8) ?_ | with_reducible refine store_node rfl _ _ rfl g (k * 31) (x.withPar (X k).par) s' rfl rfl (unhide hth) ?_)
          clear c6
          replace R4 := hide (sets_other (o := k * 31) (fun e => unhide hg4 e.symm) (ndC (x.withPar (X k).par) s').toList (unhide R4))
          replace R6 := hide (sets_other (o := k * 31) (fun e => unhide hg6 e.symm) (ndC (x.withPar (X k).par) s').toList (unhide R6))
          replace HB := hide (below_sets (b := g) (o := k * 31) (show w.heap.size ≤ g by have := unhide lR; have := unhide hg0; omega) (ndC (x.withPar (X k).par) s').toList (unhide HB))
          generalize U9.setCells g (k * 31) (ndC (x.withPar (X k).par) s').toList = UU at R4 R6 HB hSG ⊢
          have c6 := row1 (unhide R6)
          have c4 := row1 (unhide R4)
          have f4 := frozen_of_row _ b4 0 _ _ (unhide R4)
          have n6 : ¬ b4 = b6 := by have := unhide lR; omega
          go_wp2_with fail
          exact bodyPost_ret (v := .tuple #[.agg #[.slice (some ⟨g, 0, none⟩) n c], .int .i64 0]) (by simp [results, Tryz.results25, go_sem, c4]) rfl (by obtain ⟨e0, e1⟩ := unhide hM1; rw [e0, e1]; exact ⟨_, _, _, rfl, sgHigh (((unhide hSG).setk (j := 0) (v := .slice (some ⟨g, 0, none⟩) n c) (unhide R4)).low (unhide lB0)) (by simp [World.setCell]), (unhide HB).setCell (p := ⟨b4, 0, none⟩) (by have := unhide lR; dsimp only; omega) _⟩)
        | false =>
          rw [hg] at d2
          rw [hg] at hC1
          have F := hide (unhide EI _ (unhide HB))
          go_wp2_with fail
          go_fit (unhide F)
          rintro r u5 ⟨pk, ck, rfl, hb⟩
          clear F d0 d1 d2 c0 hg
          replace R1 := hide (row_next hb (unhide R1))
          replace R2 := hide (row_next hb (unhide R2))
          replace R4 := hide (row_next hb (unhide R4))
          replace R6 := hide (row_next hb (unhide R6))
          replace HB := hide (below_two (unhide HB) hb)
          replace SGk := hide ((unhide SGk).next hb)
          replace lT := hide (Nat.le_trans (unhide lT) hb.size)
          clear hb
          by_cases h0 : 0 < (kidsL X n x.id).length
          · have hM0 := hide (show setC16 X n x = 1 ∧ setX X n x = X from set_no (by rw [unhide hC1, if_pos (by simp [h0])]) (by decide))
            have h0' : (0 : Int) < ((kidsL X n x.id).length : Int) := by omega
            have c6 := row1 (unhide R6)
            have c4 := row1 (unhide R4)
            have f4 := frozen_of_row _ b4 0 _ _ (unhide R4)
            have n6 : ¬ b4 = b6 := by have := unhide lR; omega
            go_wp2_with fail
            exact bodyPost_ret (v := .tuple #[.agg #[.slice p n c], .int .i64 1]) (by simp [results, Tryz.results25, go_sem, c4]) rfl (by obtain ⟨e0, e1⟩ := unhide hM0; rw [e0, e1]; exact ⟨p, c, A', rfl, (sgHigh (((unhide SGk).setk (j := 0) (v := .slice p n c) (unhide R4)).low (unhide lB0)) (by simpa [World.setCell] using unhide lT)), (unhide HB).setCell (p := ⟨b4, 0, none⟩) (by have := unhide lR; dsimp only; omega) _⟩)
          · have hM1 := hide (set_yes (show setC16 X n x = 0 by rw [unhide hC1, if_neg (fun e => h0 e.2)]) (unhide hKK))
            have h0' : ¬ (0 : Int) < ((kidsL X n x.id).length : Int) := by omega
            go_upto_region 9 with fail
            clear h0 h0' hk0'
            have F := hide (unhide EN _ (unhide HB))
            go_wp2_with (refine load_own rfl _ rfl b2 rfl x s 41 (unhide R2) ?_)
            go_fit (unhide F)
            rintro r u7 ⟨s', rfl, hx, hb⟩
            have hsz := hide (show b6 ≤ u5.heap.size from unhide lT)
            replace hx := hide hx
            clear F
            have sz7 := hide (show u5.heap.size ≤ u7.heap.size from hb.size)
            have hx8 := hide (show ∀ l, l < 5 → ∀ q, (lvl x s' l).ownBlock = some q → q < u7.heap.size from fun l hl q e => (((unhide hx).own l hl).lt q e).2)
            replace R1 := hide (row_next hb (unhide R1))
            replace R2 := hide (row_next hb (unhide R2))
            replace R4 := hide (row_next hb (unhide R4))
            replace R6 := hide (row_next hb (unhide R6))
            replace HB := hide (below_two (unhide HB) hb)
            replace SGk := hide ((unhide SGk).next hb)
            replace lT := hide (Nat.le_trans (unhide lT) hb.size)
            clear hb
            go_upto_region 10 with (with_reducible refine store_new rfl _ _ rfl _ x s' rfl rfl rfl ?_)
            have R8 := hide (new_row u7 (.cells (ndC x s') 41))
            have hb := al1_below u7 (.cells (ndC x s') 41)
            replace hx := hide ((unhide hx).next hb)
            replace R1 := hide (row_next hb (unhide R1))
            replace R2 := hide (row_next hb (unhide R2))
            replace R4 := hide (row_next hb (unhide R4))
            replace R6 := hide (row_next hb (unhide R6))
            replace HB := hide (below_two (unhide HB) hb)
            replace SGk := hide ((unhide SGk).next hb)
            replace lT := hide (Nat.le_trans (unhide lT) hb.size)
            clear hb
            have l8 := hide (show b6 ≤ u7.heap.size ∧ u5.heap.size ≤ u7.heap.size from ⟨Nat.le_trans (unhide hsz) (unhide sz7), unhide sz7⟩)
            generalize u7.alloc (.cells (ndC x s') 41) = U8 at R1 R2 R4 R6 R8 HB SGk lT hx ⊢
            generalize u7.heap.size = b8 at R8 l8 sz7 hx8 ⊢
            obtain ⟨d0, d1, d2⟩ := headsC (unhide R8)
            have f1 := frozen_of_row U8 b8 1 _ _ (unhide R8)
            obtain ⟨b, o, hao, g0, g1, g2⟩ := ((unhide P k hk).next (unhide HB)).heads
            subst hao
            have c0 := row1 (unhide R1)
            have hk0 : ¬ (k : Int) < 0 := by omega
            have hkn : (k : Int) < (n : Int) := by omega
            go_upto_region 11 with fail
            clear d0 d1 d2 f1 g0 g1 g2 c0
            have n68 : Hid (b6 ≠ b8) := fun e => by
              have h1 := unhide R6
              rw [e, unhide R8] at h1
              cases h1
            replace R8 := hide (setC (j := 1) (v := .int .i64 (X k).par) (unhide R8))
            rw [ndC_par] at R8
            have lR8 := hide (show w.heap.size ≤ b8 ∧ b1 ≠ b8 ∧ b2 ≠ b8 ∧ b4 ≠ b8 ∧ B0 ≤ b8 by have := unhide lR; have := unhide l8; omega)
            replace R1 := hide (setc_other (b := b8) (j := 1) (v := .int .i64 (X k).par) (unhide lR8).2.1 (unhide R1))
            replace R4 := hide (setc_other (b := b8) (j := 1) (v := .int .i64 (X k).par) (unhide lR8).2.2.2.1 (unhide R4))
            replace R6 := hide (setc_other (b := b8) (j := 1) (v := .int .i64 (X k).par) (unhide n68) (unhide R6))
            replace HB := hide ((unhide HB).setCell (p := ⟨b8, 1, none⟩) (unhide lR8).1 (.int .i64 (X k).par))
            replace SGk := hide (show SG (U8.setCell ⟨b8, 1, none⟩ (.int .i64 (X k).par)) B0 b6 p n c X A' from sg_setn (unhide SGk) (unhide l8).1)
            replace hx := hide (show NdG (U8.setCell ⟨b8, 1, none⟩ (.int .i64 (X k).par)) u5.heap.size (x.withPar (X k).par) s' from (nd_setn (unhide hx) (unhide hx8)).withPar _)
            generalize U8.setCell ⟨b8, 1, none⟩ (.int .i64 (X k).par) = U9 at R1 R4 R6 R8 HB SGk hx ⊢
            obtain ⟨ys, y1, _⟩ := (unhide SGk).row
            obtain ⟨g, c', e, hg0, hg1⟩ := own_at y1 (by omega)
            cases e
            have hth := hide (own_there y1 hk)
            have hg6 := hide (own_ty y1 (unhide R6) (by decide) g rfl)
            have hg4 := hide (own_ty y1 (unhide R4) (by decide) g rfl)
            replace hg0 := hide hg0
            have hSG := hide ((unhide SGk).put (k := k) hk (show B0 ≤ u5.heap.size by have := unhide lR; have := unhide hsz; omega) (unhide hsz) (unhide hx))
            clear y1 SGk
            have c6 := row1 (unhide R6)
            go_upto_region 12 with (first | refine load_own rfl _ rfl b8 rfl (x.withPar (X k).par) s' 41 (unhide R8) ?_ | with_reducible refine store_node rfl _ _ rfl g (k * 31) (x.withPar (X k).par) s' rfl rfl (unhide hth) ?_)
            clear c6
            replace R4 := hide (sets_other (o := k * 31) (fun e => unhide hg4 e.symm) (ndC (x.withPar (X k).par) s').toList (unhide R4))
            replace R6 := hide (sets_other (o := k * 31) (fun e => unhide hg6 e.symm) (ndC (x.withPar (X k).par) s').toList (unhide R6))
            replace HB := hide (below_sets (b := g) (o := k * 31) (show w.heap.size ≤ g by have := unhide lR; have := unhide hg0; omega) (ndC (x.withPar (X k).par) s').toList (unhide HB))
            generalize U9.setCells g (k * 31) (ndC (x.withPar (X k).par) s').toList = UU at R4 R6 HB hSG ⊢
            have c6 := row1 (unhide R6)
            have c4 := row1 (unhide R4)
            have f4 := frozen_of_row _ b4 0 _ _ (unhide R4)
            have n6 : ¬ b4 = b6 := by have := unhide lR; omega
            go_wp2_with fail
            exact bodyPost_ret (v := .tuple #[.agg #[.slice (some ⟨g, 0, none⟩) n c], .int .i64 0]) (by simp [results, Tryz.results25, go_sem, c4]) rfl (by obtain ⟨e0, e1⟩ := unhide hM1; rw [e0, e1]; exact ⟨_, _, _, rfl, sgHigh (((unhide hSG).setk (j := 0) (v := .slice (some ⟨g, 0, none⟩) n c) (unhide R4)).low (unhide lB0)) (by simp [World.setCell]), (unhide HB).setCell (p := ⟨b4, 0, none⟩) (by have := unhide lR; dsimp only; omega) _⟩)
end Go.Proofs.YtmafopckplpajaaGreatDoor
