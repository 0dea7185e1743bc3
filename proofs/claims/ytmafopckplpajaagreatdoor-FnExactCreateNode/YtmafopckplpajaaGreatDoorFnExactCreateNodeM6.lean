/-
  BroodI · FellI · TreesP · ScenesP · SceneJ · UnderI · AsI · ChangeP · ChangeL · ChangeA: texts of one claim, in one.
-/
import Derived.Test.YtmafopckplpajaaGreatDoorFnExactCreateNodeM5
import Derived.Deep.RegionHeld3
import Derived.Deep.DeepCutAuto
import Derived.Deep.DeepFit
import Derived.Test.YtmafopckplpajaaGreatDoorFnExactCreateNodeM3
import Derived.Test.YtmafopckplpajaaGreatDoorFnExactCreateNodeM4
import Derived.Test.YtmafopckplpajaaGreatDoorFnExactCreateNodeM1
import Derived.LaidEql
import Derived.Stop.Asserts
import Derived.RowKitTokens
import Derived.Deep.MidRow

/-
  The program's broodsOf.
-/
namespace Go.Proofs.YtmafopckplpajaaGreatDoor
open Go.RowKit
set_option linter.unusedVariables false

set_option maxHeartbeats 8000000 in
set_option maxRecDepth 100000 in
theorem implBroodsOf_any (X : Nat → Nd) (A : Nat → Na) (ao : Option Addr) (n cp : Nat) (hn : n ≤ 1048576) (hf : ∀ i, i < n → (Lit.int .i64 (X i).par).wf = true) (w : World) (P : ∀ i, i < n → NrAt w ao i (X i) (A i)) :
    Calls Tryz.prog 119 #[.agg #[.slice ao n cp]] w fun r w' => ∃ m V, r = .returned (.map (some m)) ∧ Brood w' (m + 1) m X n V ∧ w.heap.size ≤ m ∧ Below w.heap.size w w' := by
  have hmm := @run_makeMap Tryz.prog
  obtain ⟨i0, hi, hz0, hz1, hz2⟩ := info_parts infoInt15
  replace P := hide P
  replace hf := hide hf
  go_enter Tryz.func119, Tryz.ntmps119
  go_upto_region 1 with fail
  have R := hide (new_row w (.cells #[.slice ao n cp] 26))
  have HB := hide (al1_below w (.cells #[.slice ao n cp] 26))
  have hm := hide (show w.heap.size < (w.alloc (.cells #[.slice ao n cp] 26)).heap.size by rw [al1_size]; omega)
  generalize w.alloc (.cells #[.slice ao n cp] 26) = W at R HB hm ⊢
  obtain ⟨b1, hb1⟩ : ∃ z, Hid (z = w.heap.size) := ⟨_, rfl⟩
  rw [← unhide hb1] at R hm ⊢
  go_upto_region 2 with fail
  have S := hide (Brood.made W X)
  have hms := hide (show W.heap.size < (W.alloc (.map #[] 0)).heap.size by rw [al1_size]; omega)
  replace R := hide (row_next (al1_below W (.map #[] 0)) (unhide R))
  replace HB := hide (below_two (unhide HB) (al1_below W (.map #[] 0)))
  generalize W.alloc (.map #[] 0) = W2 at R HB S hms ⊢
  generalize W.heap.size = m at S hm hms ⊢
  clear hmm
  have c0 := row1 (unhide R)
  go_upto_region 3 with fail
  clear c0
  go_loopw [10] (fun i u => ∃ (k : Nat) (V : Int → Value), k ≤ n ∧ i = .int .i64 (k : Int) ∧ Hid (Brood u (m + 1) m X k V) ∧ Hid (m < u.heap.size) ∧ Hid (Below w.heap.size w u)) (fun i _ => n - (intOf i).toNat)
  case atStart => exact ⟨0, _, Nat.zero_le _, rfl, S, hms, HB⟩
  case round =>
    clear S R HB hms
    obtain ⟨k, V, hk, rfl, S, hms, HB⟩ := hrel
    by_cases hkn : k < n
    · have hki : (k : Int) < (n : Int) := by omega
      have HP := hide ((unhide P k hkn).next (unhide HB))
      have hfk := hide (unhide hf k hkn)
      have hle := hide (kids_le X k (X k).par)
      have HPUT := hide (fun (u w1 : World) (v' : Value) (h : Brood u (m + 1) m X k V) => h.put (w1 := w1) (by omega) (unhide hfk) v')
      have HROW := hide (fun (u : World) (h : Brood u (m + 1) m X k V) => h.row (X k).par (unhide hfk))
      have HLOOK := hide (fun (u : World) (h : Brood u (m + 1) m X k V) => h.look (X k).par (unhide hfk))
      generalize kidsL X k (X k).par = L at hle HPUT HROW
      obtain ⟨xx, hxx⟩ : ∃ z, Hid (X k = z) := ⟨_, rfl⟩
      obtain ⟨ss, hss⟩ : ∃ z, Hid (A k = z) := ⟨_, rfl⟩
      rw [unhide hxx, unhide hss] at HP
      rw [unhide hxx] at HPUT HROW HLOOK
      obtain ⟨b, o, hao, hrg⟩ := (unhide HP).range
      replace hrg := hide hrg
      subst hao
      go_upto_region 5 with (first | refine load_node rfl _ rfl b (o + k * 31) rfl xx ss (unhide hrg) ?_ | refine store_new rfl _ _ rfl _ xx ss rfl rfl rfl ?_)
      have R4 := hide (new_row wr (.cells (ndC xx ss) 41))
      have D4 := hide (al1_below wr (.cells (ndC xx ss) 41))
      have hlt := hide (fun g (e : (V xx.par).ownBlock = some g) => ((unhide HROW wr (unhide S)).lt g e).2)
      replace S := hide ((unhide S).next (unhide D4))
      have hb4 : Hid (m + 1 ≤ wr.heap.size) := unhide hms
      replace hms := hide (show m + 1 ≤ (wr.alloc (.cells (ndC xx ss) 41)).heap.size by have := unhide hms; rw [al1_size]; omega)
      replace HB := hide (below_two (unhide HB) (unhide D4))
      clear hrg HP D4
      generalize wr.alloc (.cells (ndC xx ss) 41) = W4 at R4 HB S hms ⊢
      generalize wr.heap.size = b4 at R4 hb4 hlt ⊢
      obtain ⟨c0, c1, _⟩ := headsC (unhide R4)
      have hl1 : (Instr.lookup 141 (.map (some m)) (.int .i64 xx.par) false).run Tryz.prog W4.drew = .ok (V xx.par) W4.drew := unhide HLOOK W4.drew ((unhide S).next (Below.refl _ _).drew)
      have hl2 : (Instr.lookup 141 (.map (some m)) (.int .i64 xx.par) false).run Tryz.prog (W4.alloc (.cells #[.int .i64 xx.id] 3)).drew = .ok (V xx.par) (W4.alloc (.cells #[.int .i64 xx.id] 3)).drew := unhide HLOOK _ ((unhide S).next (al1_below W4 _).drew)
      have hO := hide (unhide HROW W4 (unhide S))
      have hA : Hid (∀ w1 : World, W4.grownBy w1 (V xx.par).ownBlock → (w1.cell? ⟨b4, 0, none⟩ = some (.int .i64 xx.id) ∧ w1.cell? ⟨b4, 1, none⟩ = some (.int .i64 xx.par))) := fun w1 hg => by
        have hne : some b4 ≠ (V xx.par).ownBlock := fun e => by have := unhide hlt b4 e.symm; omega
        exact ⟨hg.cell c0 hne, hg.cell c1 hne⟩
      have hB : Hid (∀ w1 w2 : World, (w1.cell? ⟨b4, 0, none⟩ = some (.int .i64 xx.id) ∧ w1.cell? ⟨b4, 1, none⟩ = some (.int .i64 xx.par)) → w1.grownBy w2 (some m) → (w2.cell? ⟨b4, 0, none⟩ = some (.int .i64 xx.id) ∧ w2.cell? ⟨b4, 1, none⟩ = some (.int .i64 xx.par))) := fun w1 w2 hc hg => by
        have hne : some b4 ≠ some m := fun e => by cases e; have := unhide hb4; omega
        exact ⟨hg.cell hc.1 hne, hg.cell hc.2 hne⟩
      have hC : Hid (∀ w1 w2 : World, W4.grownBy w1 (V xx.par).ownBlock → w1.grownBy w2 (some m) → Below w.heap.size w w2) := fun w1 w2 g1 g2 => by
        have hwm : w.heap.size ≤ m := by have := unhide hm; have := unhide hb1; omega
        have h1 : Below w.heap.size w w1 := (unhide HB).grown g1 (unhide HB).size (fun g e => by have := ((unhide hO).lt g e).1; omega)
        exact h1.grown g2 h1.size (fun g e => by cases e; exact hwm)
      have k1 : Hid (W4.drew.cell? ⟨b4, 0, none⟩ = some (.int .i64 xx.id) ∧ W4.drew.cell? ⟨b4, 1, none⟩ = some (.int .i64 xx.par)) := ⟨c0, c1⟩
      have k2 : Hid ((W4.alloc (.cells #[.int .i64 xx.id] 3)).drew.cell? ⟨b4, 0, none⟩ = some (.int .i64 xx.id) ∧ (W4.alloc (.cells #[.int .i64 xx.id] 3)).drew.cell? ⟨b4, 1, none⟩ = some (.int .i64 xx.par)) := ⟨kn _ c0, kn _ c1⟩
      clear c0 c1
      go_region_held3 (fun u => u.cell? ⟨b4, 0, none⟩ = some (.int .i64 xx.id) ∧ u.cell? ⟨b4, 1, none⟩ = some (.int .i64 xx.par)) (first | with_reducible assumption | with_reducible exact unhide k1 | with_reducible exact unhide k2) ((refine step_append_id rfl _ _ rfl (m + 1) i0 hi hz0 hz1 hz2 (V xx.par) L rfl (unhide hO) xx.id 1 rfl (by have := unhide hle; omega) (unhide hms) ?_; intro v1 w1 o1 g1 l1; obtain ⟨w2, hrun2, B2, g2⟩ := unhide HPUT W4 w1 v1 (unhide S) g1 o1 l1; have s1 := unhide hA w1 g1; have s2 := unhide hB w1 w2 s1 g2; have d2 := hide (unhide hC w1 w2 g1 g2); replace B2 := hide B2; have z2 := hide (show m < w2.heap.size from Nat.lt_of_lt_of_le (Nat.lt_of_lt_of_le (unhide hms) g1.size) g2.size); clear o1 g1 l1 g2))
      all_goals
        clear hrun2 s1
        go_wp2_with fail
        go_roundw
        case rel => exact ⟨k + 1, _, by omega, by go_num, B2, z2, d2⟩
        case measure => simp [intOf]; omega
    · have hke : k = n := by omega
      subst hke
      have hki : ¬ (k : Int) < (k : Int) := by omega
      go_wp2_with fail
      go_ret
      exact ⟨m, rfl, ⟨V, unhide S⟩, by have := unhide hm; have := unhide hb1; omega, unhide HB⟩
end Go.Proofs.YtmafopckplpajaaGreatDoor

/-
  The program's fell.
-/
namespace Go.Proofs.YtmafopckplpajaaGreatDoor
open Go.RowKit
set_option linter.unusedVariables false

set_option maxHeartbeats 8000000 in
set_option maxRecDepth 100000 in
theorem implFell_any (X : Nat → Nd) (ao : Option Addr) (n m1 m2 base : Nat) (V : Int → Value) (hn : n ≤ 1000) (hw : ∀ i, i < n → (Lit.int .i64 (X i).id).wf = true) (R : Int → Prop) (top : Int) (htw : (Lit.int .i64 top).wf = true) (hRt : R top)
    (hR : ∀ p, R p → ¬ firstN X p n < 0 → ∀ y, y ∈ kidsL X n p → R y) (hao : 0 < n → ∃ b o, ao = some ⟨b, o, none⟩) (w : World) (S : NMap w m1 n (stP ao X n)) (T : Brood w base m2 X n V) (h12 : m1 < base) (hne : m1 ≠ m2) :
    Calls Tryz.prog 118 #[.map (some m1), .int .i64 top, .map (some m2)] w fun r w' => r = .returned (.tuple #[]) ∧ ∃ G, NMap w' m1 n (goneF G (stP ao X n)) ∧ FInv X n R top G [] ∧ w.grownBy w' (some m1) := by
  obtain ⟨i0, hi, hz0, hz1, hz2⟩ := info_parts infoInt15
  replace hw := hide hw
  replace hR := hide hR
  replace hao := hide hao
  replace T := hide T
  have hlt := hide S.lt
  have hF := hide (FInv.start (X := X) (n := n) (R := R) hRt htw)
  have hsz := hide S.size
  replace S := hide S
  clear htw hRt
  go_enter Tryz.func118, Tryz.ntmps118
  go_upto_region 1 with fail
  have Q0 := hide (QRow.start w top)
  have S0 := hide (show NMap (w.alloc (.cells #[.int .i64 top] 3)) m1 n (goneF (fun _ => false) (stP ao X n)) by rw [goneF_no]; exact (unhide S).next (al1_below w _))
  have G0 := hide (World.grownBy_alloc w (.cells #[.int .i64 top] 3) (some m1))
  have hs0 := hide (show msize (w.alloc (.cells #[.int .i64 top] 3)) m1 ≤ n by rw [msize_kept (World.grownBy_alloc w _ none) (unhide hlt) (by simp)]; exact unhide hsz)
  generalize w.alloc (.cells #[.int .i64 top] 3) = W at Q0 S0 G0 hs0 ⊢
  go_loopw [6] (fun v u => ∃ (xs : List Int) (G : Int → Bool), Hid (QRow u w.heap.size v xs) ∧ Hid (NMap u m1 n (goneF G (stP ao X n))) ∧ Hid (w.grownBy u (some m1)) ∧ Hid (FInv X n R top G xs) ∧ Hid (xs.length + msize u m1 * (n + 1) ≤ n * (n + 1) + 1)) (fun v u => lenV v + msize u m1 * (n + 1))
  case atStart => exact ⟨[top], _, Q0, S0, G0, hF, by have := unhide hs0; have h2 := Nat.mul_le_mul_right (n + 1) this; show 1 + msize W m1 * (n + 1) ≤ _; omega⟩
  case round =>
    clear Q0 S0 G0 hF hs0
    obtain ⟨xs, G, Q, S1, G1, F, hb⟩ := hrel
    cases xs with
    | nil =>
      obtain ⟨a, c, rfl⟩ := (unhide Q).none
      go_wp2_with fail
      go_end0
      exact ⟨rfl, G, unhide S1, unhide F, unhide G1⟩
    | cons z r =>
      obtain ⟨hRz, hzw⟩ := (unhide F).q1 z (List.mem_cons_self ..)
      replace hzw := hide hzw
      have hl := (unhide S1).look z (unhide hzw)
      obtain ⟨g, off, c, rfl, hc0, hgb, hrc, hcm, ht1, ht0⟩ := (unhide Q).form
      replace hgb := hide hgb
      replace ht1 := hide ht1
      replace ht0 := hide ht0
      have hpos : (0 : Int) < ((r.length + 1 : Nat) : Int) := by omega
      by_cases hst : G z = true ∨ firstN X z n < 0
      · have e : goneF G (stP ao X n) z = .pointer none := by
          unfold goneF
          by_cases hg : G z = true
          · rw [if_pos hg]
          · rw [if_neg hg]; exact stP_none (hst.resolve_left hg)
        rw [e] at hl
        have F2 := hide ((unhide F).pass hst)
        have hb2 := hide (show r.length + msize wr m1 * (n + 1) ≤ n * (n + 1) + 1 by have := unhide hb; simp only [List.length_cons] at this; omega)
        clear e hst
        by_cases hc : c = 0
        · subst hc
          obtain ⟨Q2, hr0⟩ := unhide ht0 rfl
          replace Q2 := hide Q2
          subst hr0
          go_wp2_with fail
          go_roundw
          case rel => exact ⟨[], G, Q2, S1, G1, F2, hb2⟩
          case measure => simp [lenV]
        · have Q2 := hide (unhide ht1 (by omega))
          go_wp2_with fail
          go_roundw
          case rel => exact ⟨r, G, Q2, S1, G1, F2, hb2⟩
          case measure => simp [lenV]
      · have hnf : ¬ firstN X z n < 0 := fun e => hst (.inr e)
        have hnG : G z = false := by cases e : G z with | false => rfl | true => exact absurd (.inl e) hst
        obtain ⟨k, hk, hfk⟩ : ∃ k, k < n ∧ firstN X z n = (k : Int) := by
          rcases first_is (X := X) (id := z) n with ⟨e, _⟩ | ⟨k, hk, e, _⟩
          · omega
          · exact ⟨k, hk, e⟩
        obtain ⟨b, o, hab⟩ := unhide hao (by omega)
        have e : goneF G (stP ao X n) z = .pointer (some ⟨b, o + k * 31, none⟩) := by
          unfold goneF
          rw [if_neg (by rw [hnG]; exact Bool.false_ne_true), hab]
          exact stP_at hfk
        have hnp : Hid (goneF G (stP ao X n) z ≠ .pointer none) := by rw [e]; intro h; cases h
        rw [e] at hl
        have F2 := hide ((unhide F).fall hnf (fun p h1 h2 => unhide hR p h1 (by omega)) (unhide hw))
        have hkl := hide (kids_le X n z)
        have hb0 := hide (show r.length + 1 + msize wr m1 * (n + 1) ≤ n * (n + 1) + 1 by have := unhide hb; simp only [List.length_cons] at this; omega)
        have hbig := hide (show n * (n + 1) ≤ 1001000 by have := Nat.mul_le_mul hn (Nat.add_le_add_right hn 1); omega)
        have hT1 := hide ((unhide T).kept (unhide G1) h12 hne)
        clear hst hnf hnG hk hfk e F
        go_upto_region 6 with (at_delete; go_must (refine wpList_delete_nm rfl _ _ rfl m1 n _ rfl (unhide S1) z rfl (unhide hzw) (unhide hnp) ?_); intro w1 S2 g1 hms; rw [goneF_more] at S2; replace S2 := hide S2; replace g1 := hide g1; replace hms := hide hms; refine Hid.out ?_)
        have G2 := hide (show w.grownBy w1 (some m1) from (unhide G1).trans (unhide g1))
        have hT2 := hide ((unhide hT1).kept (unhide g1) h12 hne)
        have hl2 := (unhide hT2).look z (unhide hzw)
        have hI := hide (own_ints ((unhide hT2).row z (unhide hzw)))
        have Q2 := hide ((unhide Q).next (unhide g1) (fun q e => by cases e; exact unhide hlt))
        clear hl S1 hT1 hnp hc0 ht1 ht0 Q
        unfold Hid
        go_wp2_with (at_builtin; go_must (refine wpList_append_queue rfl _ _ rfl w.heap.size i0 hi hz0 hz1 hz2 _ _ (z :: r) (kidsL X n z) rfl rfl (unhide Q2) (unhide hI) (by have := unhide hkl; have := unhide hb0; have := unhide hbig; simp only [List.length_cons]; omega) (unhide G2).size ?_); intro v2 w2 Q3 g2; replace Q3 := hide Q3; replace g2 := hide g2; refine Hid.out ?_)
        unfold Hid
        have hfar := hide (fun q (e : (Value.slice (some ⟨g, off, none⟩) (r.length + 1) (c + 1)).ownBlock = some q) => show w.heap.size ≤ q from (unhide Q2).block q e)
        have G3 := hide (grown_far (unhide G2) (unhide g2) (unhide hfar))
        have S3 := hide ((unhide S2).kept (unhide g2) (fun e => by have := unhide hfar m1 e.symm; have := unhide hlt; omega))
        have hms3 := hide (show msize w2 m1 + 1 = msize wr m1 by
          rw [msize_kept (unhide g2) (Nat.lt_of_lt_of_le (unhide hlt) (unhide G2).size) (fun e => by have := unhide hfar m1 e.symm; have := unhide hlt; omega)]
          exact unhide hms)
        obtain ⟨g', off', c', rfl, _, _, hrc', hcm', ht1, ht0⟩ := (show QRow w2 w.heap.size v2 (z :: (r ++ kidsL X n z)) from unhide Q3).form
        have hlk := unhide hkl
        have hmul := hide (show msize wr m1 * (n + 1) = msize w2 m1 * (n + 1) + (n + 1) by rw [← unhide hms3, Nat.add_mul, Nat.one_mul])
        have hb3 := hide (show (r ++ kidsL X n z).length + msize w2 m1 * (n + 1) ≤ n * (n + 1) + 1 by have := unhide hb0; have := unhide hmul; rw [List.length_append]; omega)
        have hdec := hide (show (r ++ kidsL X n z).length + msize w2 m1 * (n + 1) < r.length + 1 + msize wr m1 * (n + 1) by have := unhide hmul; rw [List.length_append]; omega)
        replace ht1 := hide ht1
        replace ht0 := hide ht0
        clear hl2 hfar hms hms3 hmul Q2 Q3 g2 g1 hI hlk
        generalize r ++ kidsL X n z = L at F2 hb3 hdec ht1 ht0 hrc' ⊢
        by_cases hc : c' = 0
        · subst hc
          obtain ⟨Q4, hr0⟩ := unhide ht0 rfl
          replace Q4 := hide Q4
          subst hr0
          go_wp2_with fail
          go_roundw
          case rel => exact ⟨[], _, Q4, S3, G3, F2, hb3⟩
          case measure => have := unhide hdec; simpa [lenV] using this
        · have Q4 := hide (unhide ht1 (by omega))
          go_wp2_with fail
          go_roundw
          case rel => exact ⟨L, _, Q4, S3, G3, F2, hb3⟩
          case measure => have := unhide hdec; simpa [lenV] using this
end Go.Proofs.YtmafopckplpajaaGreatDoor

/-
  Right scenes: depths, what is under a node, how many kids there are in all.
-/
namespace Go.Proofs.YtmafopckplpajaaGreatDoor
set_option linter.unusedVariables false

theorem depthN_succ (X : Nat → Nd) (n f : Nat) (c id : Int) : depthN X n (f + 1) c id = if id = 0 then c else if firstN X id n < 0 then 0 else depthN X n f (c + 1) (X (firstN X id n).toNat).par := rfl
theorem depth_more {X : Nat → Nd} {n : Nat} : ∀ {f : Nat} {c id : Int}, 0 < c → depthN X n f c id ≠ 0 → c ≤ depthN X n f c id ∧ ∀ (f' : Nat) (c' : Int), f ≤ f' → depthN X n f' c' id = depthN X n f c id - c + c'
  | 0, c, id, _, h => absurd rfl h
  | f + 1, c, id, hc, h => by
    rw [depthN_succ] at h ⊢
    by_cases h0 : id = 0
    · rw [if_pos h0] at h ⊢
      refine ⟨Int.le_refl _, fun f' c' hf => ?_⟩
      obtain ⟨g, rfl⟩ : ∃ g, f' = g + 1 := ⟨f' - 1, by omega⟩
      rw [depthN_succ, if_pos h0]; omega
    · rw [if_neg h0] at h ⊢
      by_cases h1 : firstN X id n < 0
      · rw [if_pos h1] at h; exact absurd rfl h
      · rw [if_neg h1] at h ⊢
        obtain ⟨h2, h3⟩ := depth_more (f := f) (c := c + 1) (by omega) h
        refine ⟨by omega, fun f' c' hf => ?_⟩
        obtain ⟨g, rfl⟩ : ∃ g, f' = g + 1 := ⟨f' - 1, by omega⟩
        rw [depthN_succ, if_neg h0, if_neg h1, h3 g (c' + 1) (by omega)]
        omega
theorem okAt_iff {X : Nat → Nd} {n i : Nat} : okAt X n i = true ↔ nodeOkB (X i) = true ∧ firstN X (X i).id n = (i : Int) ∧ (1 ≤ depthI X n (X i).id ∧ depthI X n (X i).id ≤ 4) ∧ ((X i).par = 0 ∨ (0 ≤ firstN X (X i).par n ∧ (X (firstN X (X i).par n).toNat).gr = true)) := by
  unfold okAt
  simp only [Bool.and_eq_true, decide_eq_true_eq, Bool.or_eq_true, inB_true]
theorem node_ids {x : Nd} (h : nodeOkB x = true) : (1 ≤ x.id ∧ x.id ≤ 99) ∧ (0 ≤ x.par ∧ x.par ≤ 99) ∧ x.id ≠ x.par := by
  unfold nodeOkB at h
  simp only [Bool.and_eq_true, inB_true, Bool.not_eq_true', decide_eq_false_iff_not] at h
  exact ⟨h.1, h.2.1, h.2.2.1⟩
theorem depth_step {X : Nat → Nd} {n i : Nat} (hS : ScOk X n) (hi : i < n) : depthI X n (X i).id = depthI X n (X i).par + 1 := by
  obtain ⟨h1, h2, ⟨h3, _⟩, _⟩ := okAt_iff.1 (hS.2 i hi)
  have hid := (node_ids h1).1
  unfold depthI at h3 ⊢
  have e : depthN X n 9 0 (X i).id = depthN X n 8 (0 + 1) (X i).par := by
    rw [depthN_succ, if_neg (by omega), if_neg (by omega), h2]
    rfl
  have h5 : depthN X n 8 (0 + 1) (X i).par ≠ 0 := by rw [← e]; omega
  have h4 := (depth_more (f := 8) (c := 0 + 1) (by omega) h5).2 9 0 (by omega)
  rw [e, h4]
  omega
theorem depth_zero (X : Nat → Nd) (n : Nat) : depthI X n 0 = 0 := by unfold depthI depthN; rw [if_pos rfl]
theorem depth_none {X : Nat → Nd} {n : Nat} {id : Int} (h : firstN X id n = -1) : depthI X n id = 0 := by
  unfold depthI depthN
  by_cases h0 : id = 0
  · rw [if_pos h0]
  · rw [if_neg h0, if_pos (by omega)]
theorem under_none {X : Nat → Nd} {n : Nat} {id : Int} (h : firstN X id n = -1) : underL X n id = [] := by unfold underL; rw [if_pos (by omega)]
theorem pick_mem {X : Nat → Nd} {q : Nat → Bool} {z : Int} : ∀ {n : Nat}, z ∈ pickIds X q n ↔ ∃ k, k < n ∧ q k = true ∧ (X k).id = z
  | 0 => by simp [pickIds]
  | n + 1 => by
    unfold pickIds
    have ih := pick_mem (X := X) (q := q) (z := z) (n := n)
    constructor
    · intro h
      split at h
      · rename_i hq
        rcases List.mem_append.1 h with h | h
        · obtain ⟨k, h1, h2⟩ := ih.1 h; exact ⟨k, by omega, h2⟩
        · exact ⟨n, by omega, hq, (List.mem_singleton.1 h).symm⟩
      · obtain ⟨k, h1, h2⟩ := ih.1 h; exact ⟨k, by omega, h2⟩
    · rintro ⟨k, h1, h2, h3⟩
      by_cases e : k = n
      · subst e
        rw [if_pos h2]
        exact List.mem_append.2 (.inr (List.mem_singleton.2 h3.symm))
      · have hm := ih.2 ⟨k, by omega, h2, h3⟩
        split
        · exact List.mem_append.2 (.inl hm)
        · exact hm
theorem under_mono {X : Nat → Nd} {n : Nat} {top : Int} : ∀ {f : Nat} {id : Int}, underN X n top f id = true → underN X n top (f + 1) id = true
  | 0, id, h => by cases h
  | f + 1, id, h => by
    unfold underN at h ⊢
    by_cases h0 : id = top
    · rw [if_pos h0]
    · rw [if_neg h0] at h ⊢
      by_cases h1 : firstN X id n < 0
      · rw [if_pos h1] at h; cases h
      · rw [if_neg h1] at h ⊢; exact under_mono h
theorem under_self {X : Nat → Nd} {n i : Nat} (hS : ScOk X n) (hi : i < n) : (X i).id ∈ underL X n (X i).id := by
  obtain ⟨_, h2, _, _⟩ := okAt_iff.1 (hS.2 i hi)
  unfold underL
  rw [if_neg (by omega)]
  exact pick_mem.2 ⟨i, hi, by unfold underB underN; rw [if_pos rfl], rfl⟩
/-- A node that is under another one, and is not it, has its parent there, too. -/
theorem under_par {X : Nat → Nd} {n i : Nat} (hS : ScOk X n) (hi : i < n) {z : Int} (hz : z ∈ underL X n (X i).id) :
    ∃ k, k < n ∧ firstN X z n = (k : Int) ∧ (X k).id = z ∧ (z ≠ (X i).id → (X k).par ∈ underL X n (X i).id) := by
  obtain ⟨_, h2, _, _⟩ := okAt_iff.1 (hS.2 i hi)
  have hn : ¬ firstN X (X i).id n < 0 := by omega
  unfold underL at hz
  rw [if_neg hn] at hz
  obtain ⟨k, hk, hq, rfl⟩ := pick_mem.1 hz
  obtain ⟨g1, g2, _, _⟩ := okAt_iff.1 (hS.2 k hk)
  refine ⟨k, hk, g2, rfl, fun hne => ?_⟩
  unfold underB underN at hq
  rw [if_neg hne, if_neg (by omega), g2] at hq
  change underN X n (X i).id 8 (X k).par = true at hq
  unfold underL
  rw [if_neg hn]
  by_cases e : (X k).par = (X i).id
  · rw [e]
    exact pick_mem.2 ⟨i, hi, by unfold underB underN; rw [if_pos rfl], rfl⟩
  · have h9 := under_mono hq
    unfold underN at hq
    rw [if_neg e] at hq
    rcases first_is (X := X) (id := (X k).par) n with ⟨e1, _⟩ | ⟨m, hm, e1, e2, _⟩
    · rw [if_pos (by omega)] at hq; cases hq
    · exact pick_mem.2 ⟨m, hm, by rw [e2]; exact h9, e2⟩

/-- Sums. -/
def sumF (f : Nat → Nat) : Nat → Nat
  | 0 => 0
  | n + 1 => sumF f n + f n
theorem sumF_add (f g : Nat → Nat) : ∀ n, sumF (fun i => f i + g i) n = sumF f n + sumF g n
  | 0 => rfl
  | n + 1 => by have := sumF_add f g n; show sumF _ n + (f n + g n) = sumF f n + f n + (sumF g n + g n); omega
theorem sumF_zero : ∀ n, sumF (fun _ => 0) n = 0
  | 0 => rfl
  | n + 1 => by have := sumF_zero n; show sumF _ n + 0 = 0; omega
theorem sumF_one : ∀ n, sumF (fun _ => 1) n = n
  | 0 => rfl
  | n + 1 => by have := sumF_one n; show sumF _ n + 1 = n + 1; omega
theorem sumF_congr {f g : Nat → Nat} : ∀ {n : Nat}, (∀ i, i < n → f i = g i) → sumF f n = sumF g n
  | 0, _ => rfl
  | n + 1, h => by show sumF f n + f n = sumF g n + g n; rw [sumF_congr (fun i hi => h i (by omega)), h n (by omega)]
theorem sumF_swap (h : Nat → Nat → Nat) : ∀ n m, sumF (fun i => sumF (fun j => h i j) m) n = sumF (fun j => sumF (fun i => h i j) n) m
  | 0, m => by show 0 = sumF (fun _ => 0) m; rw [sumF_zero]
  | n + 1, m => by
    show sumF _ n + sumF (fun j => h n j) m = sumF (fun j => sumF (fun i => h i j) n + h n j) m
    rw [sumF_add, sumF_swap h n m]
theorem sumF_single {f : Nat → Nat} {k : Nat} : ∀ {n : Nat}, k < n → f k = 1 → (∀ i, i < n → i ≠ k → f i = 0) → sumF f n = 1
  | 0, h, _, _ => absurd h (by omega)
  | n + 1, h, h1, h2 => by
    show sumF f n + f n = 1
    by_cases e : k = n
    · subst e
      rw [sumF_congr (g := fun _ => 0) (fun i hi => h2 i (by omega) (by omega)), sumF_zero, h1]
    · rw [sumF_single (k := k) (by omega) h1 (fun i hi => h2 i (by omega)), h2 n (by omega) (Ne.symm e)]
def bit (b : Bool) : Nat := if b = true then 1 else 0
theorem pick_len (X : Nat → Nd) (q : Nat → Bool) : ∀ n, (pickIds X q n).length = sumF (fun k => bit (q k)) n
  | 0 => rfl
  | n + 1 => by
    have ih := pick_len X q n
    show _ = sumF _ n + bit (q n)
    unfold pickIds bit
    split
    · rw [List.length_append, ih]; rfl
    · rw [ih]; rfl
/-- The kids of all parents are all nodes. -/
theorem kids_all {X : Nat → Nd} {n : Nat} (hS : ScOk X n) : (kidsL X n 0).length + sumF (fun m => (kidsL X n (X m).id).length) n = n := by
  have e1 : (kidsL X n 0).length = sumF (fun k => bit (decide ((X k).par = 0))) n := pick_len X _ n
  have e2 : sumF (fun m => (kidsL X n (X m).id).length) n = sumF (fun k => sumF (fun m => bit (decide ((X k).par = (X m).id))) n) n := by
    rw [← sumF_swap (fun m k => bit (decide ((X k).par = (X m).id))) n n]
    exact sumF_congr (fun m _ => pick_len X _ n)
  rw [e1, e2, ← sumF_add, sumF_congr (g := fun _ => 1) (fun k hk => ?_), sumF_one]
  obtain ⟨g1, g2, _, g4⟩ := okAt_iff.1 (hS.2 k hk)
  by_cases h0 : (X k).par = 0
  · have z : sumF (fun m => bit (decide ((X k).par = (X m).id))) n = 0 := by
      rw [sumF_congr (g := fun _ => 0) (fun m hm => ?_), sumF_zero]
      have hid := (node_ids (okAt_iff.1 (hS.2 m hm)).1).1
      unfold bit
      rw [if_neg (by simp; omega)]
    rw [z]
    unfold bit
    rw [if_pos (by simp [h0])]
  · have hz : bit (decide ((X k).par = 0)) = 0 := by unfold bit; rw [if_neg (by simp [h0])]
    rcases first_is (X := X) (id := (X k).par) n with ⟨e, _⟩ | ⟨m, hm, e, e3, _⟩
    · rcases g4 with g4 | ⟨g4, _⟩
      · exact absurd g4 h0
      · omega
    · rw [hz, sumF_single (k := m) hm (by unfold bit; rw [if_pos (by simp [e3])]) (fun i hi hne => by
        unfold bit
        rw [if_neg]
        simp only [decide_eq_true_eq]
        intro e4
        have a := (okAt_iff.1 (hS.2 i hi)).2.1
        rw [← e4, e] at a
        exact hne (by omega))]
end Go.Proofs.YtmafopckplpajaaGreatDoor

/-
  Scenes that grow by a node, or whose first node goes to the end: they stay right.
-/
namespace Go.Proofs.YtmafopckplpajaaGreatDoor
set_option linter.unusedVariables false

/-- Two scenes that agree at all Ids of S, which has the parents of its nodes: depths are the same. -/
theorem depth_congr {X Y : Nat → Nd} {n m : Nat} {S : Int → Prop}
    (h : ∀ id, S id → id ≠ 0 → (firstN X id n < 0 ↔ firstN Y id m < 0) ∧ (¬ firstN X id n < 0 → (X (firstN X id n).toNat).par = (Y (firstN Y id m).toNat).par ∧ S (X (firstN X id n).toNat).par)) :
    ∀ (f : Nat) (c id : Int), S id → depthN X n f c id = depthN Y m f c id
  | 0, _, _, _ => rfl
  | f + 1, c, id, hs => by
    rw [depthN_succ, depthN_succ]
    by_cases h0 : id = 0
    · rw [if_pos h0, if_pos h0]
    · rw [if_neg h0, if_neg h0]
      obtain ⟨h1, h2⟩ := h id hs h0
      by_cases h3 : firstN X id n < 0
      · rw [if_pos h3, if_pos (h1.1 h3)]
      · rw [if_neg h3, if_neg (fun e => h3 (h1.2 e)), ← (h2 h3).1]
        exact depth_congr h f (c + 1) _ (h2 h3).2
theorem first_lt {X : Nat → Nd} {id : Int} {n : Nat} (h : ¬ firstN X id n < 0) : ∃ k, k < n ∧ firstN X id n = (k : Int) ∧ (X k).id = id := by
  rcases first_is (X := X) (id := id) n with ⟨e, _⟩ | ⟨k, hk, e, e1, _⟩
  · omega
  · exact ⟨k, hk, e, e1⟩
/-- Where the Ids differ, the first is the only one. -/
theorem first_only {X : Nat → Nd} {n k : Nat} (hu : ∀ i j, i < n → j < n → (X i).id = (X j).id → i = j) (hk : k < n) : firstN X (X k).id n = (k : Int) := by
  refine first_at (fun j hj e => ?_) rfl hk
  have := hu j k (by omega) hk e
  omega
theorem first_mem {X : Nat → Nd} {n : Nat} {id : Int} : ¬ firstN X id n < 0 ↔ ∃ k, k < n ∧ (X k).id = id := by
  constructor
  · intro h; obtain ⟨k, h1, _, h3⟩ := first_lt h; exact ⟨k, h1, h3⟩
  · rintro ⟨k, hk, e⟩ hlt
    rcases first_is (X := X) (id := id) n with ⟨_, h⟩ | ⟨j, _, e1, _, _⟩
    · exact h k hk e
    · omega
theorem ScOk.uniq {X : Nat → Nd} {n : Nat} (h : ScOk X n) : ∀ i j, i < n → j < n → (X i).id = (X j).id → i = j := fun i j hi hj e => by
  have a := (okAt_iff.1 (h.2 i hi)).2.1
  have b := (okAt_iff.1 (h.2 j hj)).2.1
  rw [e, b] at a
  omega
theorem par_in {X : Nat → Nd} {n i : Nat} (h : ScOk X n) (hi : i < n) : (X i).par = 0 ∨ ∃ k, k < n ∧ (X k).id = (X i).par ∧ (X k).gr = true := by
  obtain ⟨_, _, _, h4⟩ := okAt_iff.1 (h.2 i hi)
  rcases h4 with h4 | ⟨h4, h5⟩
  · exact .inl h4
  · obtain ⟨k, hk, e, e1⟩ := first_lt (X := X) (n := n) (id := (X i).par) (by omega)
    rw [e] at h5
    exact .inr ⟨k, hk, e1, h5⟩
/-- A depth d is found within d + 1 - c steps. -/
theorem depth_fuel {X : Nat → Nd} {n : Nat} : ∀ {f : Nat} {c id : Int}, 0 ≤ c → 0 < depthN X n f c id → ∀ g : Nat, depthN X n f c id - c < (g : Int) → depthN X n g c id = depthN X n f c id
  | 0, c, id, _, h, _, _ => absurd h (by show ¬ (0 : Int) < 0; omega)
  | f + 1, c, id, hc, h, g, hg => by
    rw [depthN_succ] at h hg ⊢
    by_cases h0 : id = 0
    · rw [if_pos h0] at h hg ⊢
      obtain ⟨q, rfl⟩ : ∃ q, g = q + 1 := ⟨g - 1, by omega⟩
      rw [depthN_succ, if_pos h0]
    · rw [if_neg h0] at h hg ⊢
      by_cases h1 : firstN X id n < 0
      · rw [if_pos h1] at h; omega
      · rw [if_neg h1] at h hg ⊢
        have hle := (depth_more (X := X) (n := n) (f := f) (c := c + 1) (id := (X (firstN X id n).toNat).par) (by omega) (by omega)).1
        obtain ⟨q, rfl⟩ : ∃ q, g = q + 1 := ⟨g - 1, by omega⟩
        rw [depthN_succ, if_neg h0, if_neg h1]
        exact depth_fuel (by omega) h q (by omega)
theorem depth_short {X : Nat → Nd} {n k : Nat} (hS : ScOk X n) (hn : n ≤ 8) (hk : k < n) : depthN X n 8 (0 + 1) (X k).id = depthI X n (X k).id + 1 := by
  obtain ⟨g1, g2, ⟨g3, g4⟩, _⟩ := okAt_iff.1 (hS.2 k hk)
  unfold depthI at g3 g4 ⊢
  have e := depth_fuel (X := X) (n := n) (f := 9) (c := 0) (id := (X k).id) (by omega) (by omega) 8 (by omega)
  have hid := (node_ids g1).1
  have e1 : depthN X n 8 0 (X k).id = depthN X n 7 (0 + 1) (X k).par := by
    rw [depthN_succ, if_neg (by omega), g2, if_neg (by omega)]
    rfl
  have h7 : depthN X n 7 (0 + 1) (X k).par ≠ 0 := by rw [← e1, e]; omega
  have e2 : depthN X n 8 (0 + 1) (X k).id = depthN X n 7 (0 + 1 + 1) (X k).par := by
    rw [depthN_succ, if_neg (by omega), g2, if_neg (by omega)]
    rfl
  rw [e2, (depth_more (by omega) h7).2 7 (0 + 1 + 1) (Nat.le_refl _), ← e1, e]
  omega
/-- One node more at the end. -/
theorem scOk_snoc {X Y : Nat → Nd} {n : Nat} (hS : ScOk X n) (hn : n < 8) (hY : ∀ i, i < n → Y i = X i) (hx : nodeOkB (Y n) = true) (hid : ∀ i, i < n → (X i).id ≠ (Y n).id)
    (hp : (Y n).par = 0 ∨ ∃ k, k < n ∧ (X k).id = (Y n).par ∧ (X k).gr = true ∧ depthI X n (X k).id < 4) : ScOk Y (n + 1) := by
  have hu : ∀ i j, i < n + 1 → j < n + 1 → (Y i).id = (Y j).id → i = j := by
    intro i j hi hj e
    by_cases hi2 : i = n
    · by_cases hj2 : j = n
      · omega
      · rw [hi2, hY j (by omega)] at e; exact absurd e.symm (hid j (by omega))
    · by_cases hj2 : j = n
      · rw [hj2, hY i (by omega)] at e; exact absurd e (hid i (by omega))
      · rw [hY i (by omega), hY j (by omega)] at e; exact hS.uniq i j (by omega) (by omega) e
  have hold : ∀ (f : Nat) (c id : Int), (id = 0 ∨ ∃ k, k < n ∧ (X k).id = id) → depthN X n f c id = depthN Y (n + 1) f c id := by
    refine depth_congr (S := fun id => id = 0 ∨ ∃ k, k < n ∧ (X k).id = id) ?_
    intro id hs h0
    rcases hs with hs | ⟨k, hk, rfl⟩
    · exact absurd hs h0
    · have e1 := first_only hS.uniq hk
      have e2 : firstN Y (X k).id (n + 1) = (k : Int) := by rw [← hY k hk]; exact first_only hu (by omega)
      rw [e1, e2]
      refine ⟨Iff.rfl, fun _ => ?_⟩
      show (X k).par = (Y k).par ∧ _
      rw [hY k hk]
      refine ⟨rfl, ?_⟩
      rcases par_in hS hk with h | ⟨q, hq, e, _⟩
      · exact .inl h
      · exact .inr ⟨q, hq, e⟩
  have hid9 := (node_ids hx).1
  refine ⟨by omega, fun i hi => okAt_iff.2 ?_⟩
  by_cases hin : i = n
  · subst hin
    refine ⟨hx, first_only hu (by omega), ?_, ?_⟩
    · have e : depthI Y (i + 1) (Y i).id = depthN Y (i + 1) 8 (0 + 1) (Y i).par := by
        unfold depthI
        rw [depthN_succ, if_neg (by omega), first_only hu (by omega), if_neg (by omega)]
        rfl
      rw [e]
      rcases hp with hp | ⟨k, hk, e1, _, e3⟩
      · rw [hp]
        exact ⟨by show 1 ≤ (0 : Int) + 1; omega, by show (0 : Int) + 1 ≤ 4; omega⟩
      · have h9 := (okAt_iff.1 (hS.2 k hk)).2.2.1
        have e4 : depthN Y (i + 1) 9 0 (Y i).par = depthI X i (X k).id := by
          rw [← e1]
          exact (hold 9 0 (X k).id (.inr ⟨k, hk, rfl⟩)).symm
        -- the parent stands within eight steps, too: its depth is less than four
        have e5 : depthN X i 8 (0 + 1) (X k).id = depthI X i (X k).id + 1 := by
          exact depth_short hS (by omega) hk
        have e6 : depthN Y (i + 1) 8 (0 + 1) (Y i).par = depthN X i 8 (0 + 1) (X k).id := by
          rw [← e1]
          exact (hold 8 (0 + 1) (X k).id (.inr ⟨k, hk, rfl⟩)).symm
        rw [e6, e5]
        omega
    · rcases hp with hp | ⟨k, hk, e1, e2, _⟩
      · exact .inl hp
      · right
        have e4 : firstN Y (Y i).par (i + 1) = (k : Int) := by rw [← e1, ← hY k hk]; exact first_only hu (by omega)
        rw [e4]
        exact ⟨by omega, by show (Y k).gr = true; rw [hY k hk]; exact e2⟩
  · have hi2 : i < n := by omega
    obtain ⟨g1, g2, g3, g4⟩ := okAt_iff.1 (hS.2 i hi2)
    rw [hY i hi2]
    refine ⟨g1, by rw [← hY i hi2]; exact first_only hu hi, ?_, ?_⟩
    · have : depthI Y (n + 1) (X i).id = depthI X n (X i).id := (hold 9 0 (X i).id (.inr ⟨i, hi2, rfl⟩)).symm
      rw [this]; exact g3
    · rcases par_in hS hi2 with h | ⟨q, hq, e, eg⟩
      · exact .inl h
      · right
        have e4 : firstN Y (X i).par (n + 1) = (q : Int) := by rw [← e, ← hY q hq]; exact first_only hu (by omega)
        rw [e4]
        exact ⟨by omega, by show (Y q).gr = true; rw [hY q hq]; exact eg⟩
/-- The same nodes in another order. -/
theorem scOk_perm {X Y : Nat → Nd} {n : Nat} (hS : ScOk X n) (σ τ : Nat → Nat) (hσ : ∀ i, i < n → σ i < n ∧ τ (σ i) = i ∧ Y i = X (σ i)) (hτ : ∀ j, j < n → τ j < n ∧ σ (τ j) = j) : ScOk Y n := by
  have hY : ∀ j, j < n → Y (τ j) = X j := fun j hj => by rw [(hσ _ (hτ j hj).1).2.2, (hτ j hj).2]
  have hu : ∀ i j, i < n → j < n → (Y i).id = (Y j).id → i = j := by
    intro i j hi hj e
    rw [(hσ i hi).2.2, (hσ j hj).2.2] at e
    have := hS.uniq _ _ (hσ i hi).1 (hσ j hj).1 e
    rw [← (hσ i hi).2.1, ← (hσ j hj).2.1, this]
  have hf : ∀ k, k < n → firstN Y (X k).id n = (τ k : Int) := fun k hk => by rw [← hY k hk]; exact first_only hu (hτ k hk).1
  have hold : ∀ (f : Nat) (c id : Int), (id = 0 ∨ ∃ k, k < n ∧ (X k).id = id) → depthN X n f c id = depthN Y n f c id := by
    refine depth_congr (S := fun id => id = 0 ∨ ∃ k, k < n ∧ (X k).id = id) ?_
    intro id hs h0
    rcases hs with hs | ⟨k, hk, rfl⟩
    · exact absurd hs h0
    · rw [first_only hS.uniq hk, hf k hk]
      refine ⟨by omega, fun _ => ?_⟩
      show (X k).par = (Y (τ k)).par ∧ _
      rw [hY k hk]
      refine ⟨rfl, ?_⟩
      rcases par_in hS hk with h | ⟨q, hq, e, _⟩
      · exact .inl h
      · exact .inr ⟨q, hq, e⟩
  refine ⟨hS.1, fun i hi => okAt_iff.2 ?_⟩
  obtain ⟨h1, _, h3⟩ := hσ i hi
  obtain ⟨g1, g2, g3, g4⟩ := okAt_iff.1 (hS.2 (σ i) h1)
  refine ⟨by rw [h3]; exact g1, first_only hu hi, ?_, ?_⟩
  · have : depthI Y n (X (σ i)).id = depthI X n (X (σ i)).id := (hold 9 0 _ (.inr ⟨σ i, h1, rfl⟩)).symm
    rw [h3, this]; exact g3
  · rw [h3]
    rcases par_in hS h1 with h | ⟨q, hq, e, eg⟩
    · exact .inl h
    · right
      rw [← e, hf q hq]
      exact ⟨by omega, by show (Y (τ q)).gr = true; rw [hY q hq]; exact eg⟩
theorem scOk_nil (X : Nat → Nd) : ScOk X 0 := ⟨by omega, fun i hi => absurd hi (by omega)⟩
end Go.Proofs.YtmafopckplpajaaGreatDoor

/-
  The program's SceneOk.
-/
namespace Go.Proofs.YtmafopckplpajaaGreatDoor
open Go.RowKit
set_option linter.unusedVariables false

theorem implNodeOk_c (x : Nd) (s : Na) (hs : x.Small) (w : World) (h : NdIn w x s) :
    Calls Tryz.prog 51 #[.agg (ndC x s)] w fun r w' => r = .returned (.bool (nodeOkB x)) ∧ Below w.heap.size w w' := implNodeOk_any x s hs w h
theorem okAt_hold {X : Nat → Nd} {n k : Nat} (hf : firstN X (X k).id n = (k : Int)) : okAt X n k = (nodeOkB (X k) && (holdB X n (X k).par && inB (depthJ X n (X k).id) 1 4)) := by
  unfold okAt
  cases hb : nodeOkB (X k) with
  | false => rfl
  | true =>
    have hid : (X k).id ≠ 0 := by
      rw [nodeOk_is] at hb
      simp only [Bool.and_eq_true] at hb
      have h1 := hb.1
      unfold idsB at h1
      simp only [Bool.and_eq_true, inB_true] at h1
      omega
    rw [decide_eq_true hf, depthJ_is (.inl hid)]
    show (true && (true && (inB (depthI X n (X k).id) 1 4 && holdB X n (X k).par))) = _
    simp [Bool.and_comm]

set_option maxHeartbeats 8000000 in
set_option maxRecDepth 100000 in
theorem implSceneOk_any (X : Nat → Nd) (A : Nat → Na) (ao : Option Addr) (n cp : Nat) (hn : n ≤ 1048576) (hs : ∀ i, i < n → (X i).Small) (hw1 : ∀ i, i < n → (Lit.int .i64 (X i).id).wf = true) (hw2 : ∀ i, i < n → (Lit.int .i64 (X i).par).wf = true) (w : World) (P : ∀ i, i < n → NrAt w ao i (X i) (A i)) :
    Calls Tryz.prog 14 #[.agg #[.slice ao n cp]] w fun r w' => r = .returned (.bool (sceneOkB X n)) ∧ Below w.heap.size w w' := by
  have hyes : Hid (n ≤ 8 → (∀ i, i < n → okAt X n i = true) → sceneOkB X n = true) := fun h1 h2 => sceneOk_iff.2 ⟨h1, h2⟩
  have hbig : Hid (¬ n ≤ 8 → sceneOkB X n = false) := fun h => sceneOk_no (fun e => h e.1)
  have hno : Hid (∀ i, i < n → okAt X n i = false → sceneOkB X n = false) := fun i hi h => sceneOk_no (fun e => by have := e.2 i hi; rw [h] at this; cases this)
  have htwo : Hid (firsts X n ≠ n → sceneOkB X n = false) := fun h => by
    obtain ⟨i, hi, e⟩ := firsts_no h
    exact unhide hno i hi (by unfold okAt; rw [decide_eq_false e]; simp)
  generalize sceneOkB X n = Z at hyes hbig hno htwo ⊢
  have ES := hide (fun u => implStandingOf_any X A ao n cp hn hw1 u)
  replace P := hide P
  replace hs := hide hs
  replace hw1 := hide hw1
  replace hw2 := hide hw2
  go_enter Tryz.func14, Tryz.ntmps14
  go_upto_region 1 with fail
  have R := hide (new_row w (.cells #[.slice ao n cp] 26))
  have HB := hide (al1_below w (.cells #[.slice ao n cp] 26))
  obtain ⟨b1, hb1⟩ : ∃ z, Hid (z = w.heap.size) := ⟨_, rfl⟩
  rw [← unhide hb1] at R ⊢
  clear hb1
  generalize w.alloc (.cells #[.slice ao n cp] 26) = W at R HB ⊢
  have c0 := row1 (unhide R)
  by_cases h8 : n ≤ 8
  rotate_left
  · have h8i : (8 : Int) < (n : Int) := by omega
    have hX := hide (unhide hbig h8)
    go_wp2_with fail
    go_ret
    exact ⟨ret_bool (unhide hX).symm, unhide HB⟩
  have h8i : ¬ (8 : Int) < (n : Int) := by omega
  have E1 := hide (unhide ES W (fun i hi => (unhide P i hi).next (unhide HB)))
  go_wp2_with fail
  go_fit (unhide E1)
  rintro r u1 ⟨m, rfl, S, _, hb⟩
  replace S := hide S
  replace R := hide (row_next hb (unhide R))
  replace HB := hide (below_two (unhide HB) hb)
  clear hb c0 E1 ES
  have c0 := row1 (unhide R)
  have hlen := (unhide S).len
  by_cases h9 : firsts X n = n
  rotate_left
  · have hX := hide (unhide htwo h9)
    have hq : (((firsts X n : Nat) : Int) == (n : Int)) = false := beq_eq_false_iff_ne.2 (by omega)
    go_wp2_with fail
    go_ret
    exact ⟨ret_bool (unhide hX).symm, unhide HB⟩
  have hfst := hide (firsts_all h9)
  rw [h9] at hlen
  clear h9
  go_upto_region 7 with fail
  clear c0 hlen
  go_loopw [21] (fun i u => ∃ k : Nat, k ≤ n ∧ i = .int .i64 (k : Int) ∧ Hid (∀ j, j < k → okAt X n j = true) ∧ Hid (Below u1.heap.size u1 u)) (fun i _ => n - (intOf i).toNat)
  case atStart => exact ⟨0, Nat.zero_le _, rfl, fun j hj => absurd hj (by omega), Below.refl _ _⟩
  case round =>
    obtain ⟨k, hk, rfl, HK, D⟩ := hrel
    by_cases hkn : k < n
    · have hki : (k : Int) < (n : Int) := by omega
      replace HB := hide (below_two (unhide HB) (unhide D))
      have HP := hide ((unhide P k hkn).next (unhide HB))
      have hsk := hide (unhide hs k hkn)
      have hval := hide (okAt_hold (unhide hfst k hkn))
      have hnok := hide (unhide hno k hkn)
      have hmore : Hid (okAt X n k = true → ∀ j, j < k + 1 → okAt X n j = true) := fun h j hj => by
        by_cases e : j = k
        · subst e; exact h
        · exact unhide HK j (by omega)
      have hv1 := hide (unhide hw1 k hkn)
      have hv2 := hide (unhide hw2 k hkn)
      obtain ⟨xx, hxx⟩ : ∃ z, Hid (X k = z) := ⟨_, rfl⟩
      obtain ⟨ss, hss⟩ : ∃ z, Hid (A k = z) := ⟨_, rfl⟩
      rw [unhide hxx, unhide hss] at HP
      rw [unhide hxx] at hsk hval hv1 hv2
      obtain ⟨b, o, hao, hrg⟩ := (unhide HP).range
      replace hrg := hide hrg
      subst hao
      as_aux_lemma =>
      go_upto_region 9 with (first | refine load_node rfl _ rfl b (o + k * 31) rfl xx ss (unhide hrg) ?_ | refine store_new rfl _ _ rfl _ xx ss rfl rfl rfl ?_)
      have R4 := hide (new_row wr (.cells (ndC xx ss) 41))
      have D4 := hide (al1_below wr (.cells (ndC xx ss) 41))
      have HI := hide ((unhide HP).inn.next (unhide D4))
      replace HB := hide (below_two (unhide HB) (unhide D4))
      replace D := hide (below_two (unhide D) (unhide D4))
      clear hrg HP D4
      generalize wr.alloc (.cells (ndC xx ss) 41) = W4 at R4 HB HI D ⊢
      generalize wr.heap.size = b4 at R4 ⊢
      as_aux_lemma =>
      have E1 := hide (implNodeOk_c xx ss (unhide hsk) W4 (unhide HI))
      generalize nodeOkB xx = i1 at E1 hval
      go_wp2_with (refine load_own rfl _ rfl b4 rfl xx ss 41 (unhide R4) ?_)
      go_fit (unhide E1)
      rintro r u2 ⟨rfl, hb⟩
      replace R4 := hide (row_next hb (unhide R4))
      replace HB := hide (below_two (unhide HB) hb)
      replace D := hide (below_two (unhide D) hb)
      clear hb E1 HI
      cases i1 with
      | false =>
        have hX := hide (unhide hnok (by rw [unhide hval]; rfl))
        go_wp2_with fail
        go_ret
        exact ⟨ret_bool (unhide hX).symm, unhide HB⟩
      | true =>
      as_aux_lemma =>
      obtain ⟨c0, c1, c2⟩ := headsC (unhide R4)
      have S2 := hide ((unhide S).next (unhide D))
      have E2 := hide (implMayHold_any X A _ n m xx.par (unhide hv2) u2 (unhide S2) (fun i hi => (unhide P i hi).next (unhide HB)))
      have E3 := hide (implDepthOfM_any X A _ n m (unhide hw2) xx.id (unhide hv1) u2 (unhide S2) (fun i hi => (unhide P i hi).next (unhide HB)))
      generalize holdB X n xx.par = i2 at E2 hval
      generalize depthJ X n xx.id = dp at E3 hval
      go_wp2_with fail
      go_fit (unhide E2)
      rintro r u3 ⟨rfl, hu⟩
      rw [hu]
      clear hu u3 E2
      cases i2 with
      | false =>
        have hX := hide (unhide hnok (by rw [unhide hval]; rfl))
        go_wp2_with fail
        go_ret
        exact ⟨ret_bool (unhide hX).symm, unhide HB⟩
      | true =>
      as_aux_lemma =>
      go_wp2_with fail
      go_fit (unhide E3)
      rintro r u3 ⟨rfl, hu⟩
      rw [hu]
      clear hu u3 E3
      have E4 := hide (implDepthOk_any dp)
      generalize inB dp 1 4 = i3 at E4 hval
      go_wp2_with fail
      go_fit (unhide E4 _)
      rintro r u4 ⟨rfl, hu⟩
      rw [hu]
      clear hu u4 E4
      cases i3 with
      | false =>
        have hX := hide (unhide hnok (by rw [unhide hval]; rfl))
        go_wp2_with fail
        go_ret
        exact ⟨ret_bool (unhide hX).symm, unhide HB⟩
      | true =>
      have hgo := hide (unhide hmore (by rw [unhide hval]; rfl))
      go_wp2_with fail
      go_roundw
      case rel => exact ⟨k + 1, by omega, by go_num, hgo, D⟩
      case measure => simp [intOf]; omega
    · have hke : k = n := by omega
      subst hke
      have hki : ¬ (k : Int) < (k : Int) := by omega
      have hX := hide (unhide hyes h8 (unhide HK))
      replace HB := hide (below_two (unhide HB) (unhide D))
      go_wp2_with fail
      go_ret
      exact ⟨ret_bool (unhide hX).symm, unhide HB⟩
end Go.Proofs.YtmafopckplpajaaGreatDoor

/-
  The program's UnderOf and DepthOf, of right scenes.
-/
namespace Go.Proofs.YtmafopckplpajaaGreatDoor
open Go.RowKit
set_option linter.unusedVariables false

theorem scOk_noZero {X : Nat → Nd} {n : Nat} (hS : ScOk X n) : firstN X 0 n < 0 := by
  rcases first_is (X := X) (id := 0) n with ⟨e, _⟩ | ⟨k, hk, e, e2, _⟩
  · omega
  · have := (node_ids (okAt_iff.1 (hS.2 k hk)).1).1
    omega
theorem under_near {X : Nat → Nd} {n : Nat} {top : Int} (h0 : firstN X 0 n < 0) (ht : top ≠ 0) : ∀ (g : Nat) (c z : Int) (f : Nat), depthN X n g c z ≠ 0 → underN X n top f z = true → underN X n top g z = true
  | 0, c, z, f, hd, _ => absurd rfl hd
  | g + 1, c, z, 0, _, hu => by cases hu
  | g + 1, c, z, f + 1, hd, hu => by
    unfold depthN at hd
    unfold underN at hu ⊢
    by_cases hz : z = top
    · rw [if_pos hz]
    · rw [if_neg hz] at hu ⊢
      by_cases hf : firstN X z n < 0
      · rw [if_pos hf] at hu; cases hu
      · rw [if_neg hf] at hu ⊢
        by_cases e : z = 0
        · rw [e] at hf; exact absurd h0 hf
        · rw [if_neg e, if_neg hf] at hd
          exact under_near h0 ht g _ _ f hd hu
theorem under_close {X : Nat → Nd} {n : Nat} {top : Int} (hS : ScOk X n) (p : Int) (hp : ∃ f, underN X n top f p = true) (y : Int) (hy : y ∈ kidsL X n p) : ∃ f, underN X n top f y = true := by
  obtain ⟨f, hf⟩ := hp
  obtain ⟨j, hj, e1, e2⟩ := kids_mem.1 hy
  refine ⟨f + 1, ?_⟩
  unfold underN
  by_cases hz : y = top
  · rw [if_pos hz]
  · have hfj : firstN X y n = (j : Int) := by rw [← e2]; exact (okAt_iff.1 (hS.2 j hj)).2.1
    rw [if_neg hz, if_neg (by omega), hfj]
    show underN X n top f (X j).par = true
    rw [e1]; exact hf
theorem gone_under {X : Nat → Nd} {n : Nat} {R : Int → Prop} {top : Int} {G : Int → Bool} (hS : ScOk X n) (ht : ¬ firstN X top n < 0) (hF : FInv X n R top G []) : ∀ (f : Nat) (z : Int), underN X n top f z = true → G z = true
  | 0, z, h => by cases h
  | f + 1, z, h => by
    unfold underN at h
    by_cases hz : z = top
    · rw [hz]
      exact (hF.q3 ht).resolve_right (by simp)
    · rw [if_neg hz] at h
      by_cases hf : firstN X z n < 0
      · rw [if_pos hf] at h; cases h
      · rw [if_neg hf] at h
        obtain ⟨k, hk, e, e2⟩ := first_lt hf
        rw [e] at h
        have ih := gone_under hS ht hF f _ h
        exact (hF.q2 _ ih z (kids_mem.2 ⟨k, hk, rfl, e2⟩)).resolve_right (by simp)
theorem pick_congr {X : Nat → Nd} {p q : Nat → Bool} : ∀ {n : Nat}, (∀ k, k < n → p k = q k) → pickIds X p n = pickIds X q n
  | 0, _ => rfl
  | n + 1, h => by
    unfold pickIds
    rw [h n (by omega), pick_congr (fun k hk => h k (by omega))]
theorem pick_nothing {X : Nat → Nd} {p : Nat → Bool} : ∀ {n : Nat}, (∀ k, k < n → p k = false) → pickIds X p n = []
  | 0, _ => rfl
  | n + 1, h => by
    unfold pickIds
    rw [h n (by omega), pick_nothing (fun k hk => h k (by omega))]
    rfl
open Classical in
/-- What the program may come to from a node on. -/
noncomputable def reachP (X : Nat → Nd) (n : Nat) (top : Int) (z : Int) : Prop := if firstN X top n < 0 then z = top else ∃ f, underN X n top f z = true
theorem reach_top (X : Nat → Nd) (n : Nat) (top : Int) : reachP X n top top := by
  unfold reachP
  by_cases h : firstN X top n < 0
  · rw [if_pos h]
  · rw [if_neg h]; exact ⟨1, by unfold underN; rw [if_pos rfl]⟩
theorem reach_close {X : Nat → Nd} {n : Nat} {top : Int} (hS : ScOk X n) (p : Int) (hp : reachP X n top p) (hf : ¬ firstN X p n < 0) (y : Int) (hy : y ∈ kidsL X n p) : reachP X n top y := by
  unfold reachP at hp ⊢
  by_cases h : firstN X top n < 0
  · rw [if_pos h] at hp
    rw [hp] at hf
    exact absurd h hf
  · rw [if_neg h] at hp ⊢
    exact under_close hS p hp y hy
theorem gone_is {X : Nat → Nd} {n : Nat} {top : Int} {G : Int → Bool} (hS : ScOk X n) (hF : FInv X n (reachP X n top) top G []) : pickIds X (fun k => G (X k).id) n = underL X n top := by
  unfold underL
  by_cases h : firstN X top n < 0
  · rw [if_pos h]
    refine pick_nothing (fun k hk => ?_)
    cases e : G (X k).id with
    | false => rfl
    | true =>
      obtain ⟨g1, g2⟩ := hF.g1 _ e
      unfold reachP at g1
      rw [if_pos h] at g1
      rw [g1] at g2
      exact absurd h g2
  · rw [if_neg h]
    refine pick_congr (fun k hk => ?_)
    obtain ⟨o1, o2, ⟨o3, _⟩, _⟩ := okAt_iff.1 (hS.2 k hk)
    have ht0 : top ≠ 0 := fun e => h (by rw [e]; exact scOk_noZero hS)
    cases e : G (X k).id with
    | true =>
      obtain ⟨g1, _⟩ := hF.g1 _ e
      unfold reachP at g1
      rw [if_neg h] at g1
      obtain ⟨f, hf⟩ := g1
      exact (under_near (scOk_noZero hS) ht0 9 0 _ f (by unfold depthI at o3; omega) hf).symm
    | false =>
      cases e2 : underB X n (X k).id top with
      | false => rfl
      | true =>
        have := gone_under hS h hF 9 _ e2
        rw [e] at this
        cases this

set_option maxHeartbeats 8000000 in
set_option maxRecDepth 100000 in
theorem implUnderOf_right (X : Nat → Nd) (A : Nat → Na) (ao : Option Addr) (n cp : Nat) (hS : ScOk X n) (id : Int) (hid : (Lit.int .i64 id).wf = true) (w : World) (P : ∀ i, i < n → NrAt w ao i (X i) (A i)) :
    Calls Tryz.prog 56 #[.agg #[.slice ao n cp], .int .i64 id] w fun r w' => IdsRes w r w' (underL X n id) := by
  obtain ⟨i0, hi, hz0, hz1, hz2⟩ := info_parts infoInt15
  have hn8 : n ≤ 8 := hS.1
  have hw1 : ∀ i, i < n → (Lit.int .i64 (X i).id).wf = true := fun i hi => WalkArith.wf_i64 (by have := (node_ids (okAt_iff.1 (hS.2 i hi)).1).1; omega)
  have hw2 : ∀ i, i < n → (Lit.int .i64 (X i).par).wf = true := fun i hi => WalkArith.wf_i64 (by have := (node_ids (okAt_iff.1 (hS.2 i hi)).1).2.1; omega)
  have E1 := hide (fun u => implStandingOf_any X A ao n cp (by omega) hw1 u)
  have E2 := hide (fun u => implBroodsOf_any X A ao n cp (by omega) hw2 u)
  have hao : 0 < n → ∃ b o, ao = some ⟨b, o, none⟩ := fun h => let ⟨b, o, e, _⟩ := P 0 h; ⟨b, o, e⟩
  have E3 := hide (fun u m1 m2 base V => implFell_any X ao n m1 m2 base V (by omega) hw1 (reachP X n id) id hid (reach_top X n id) (reach_close hS) hao u)
  have hfin := hide (fun G (h : FInv X n (reachP X n id) id G []) => gone_is hS h)
  have hfst : Hid (∀ k, k < n → firstN X (X k).id n = (k : Int)) := fun k hk => (okAt_iff.1 (hS.2 k hk)).2.1
  replace hw1 := hide hw1
  clear hw2 hid hS hao
  replace P := hide P
  unfold IdsRes
  generalize underL X n id = L0 at hfin ⊢
  go_enter Tryz.func56, Tryz.ntmps56
  go_upto_region 1 with fail
  have R := hide (new_row w (.cells #[.slice ao n cp] 26))
  have HB := hide (al1_below w (.cells #[.slice ao n cp] 26))
  have hbs := hide (show w.heap.size < (w.alloc (.cells #[.slice ao n cp] 26)).heap.size by rw [al1_size]; omega)
  obtain ⟨b1, hb1⟩ : ∃ z, Hid (z = w.heap.size) := ⟨_, rfl⟩
  rw [← unhide hb1] at R ⊢
  generalize w.alloc (.cells #[.slice ao n cp] 26) = W at R HB hbs ⊢
  have c0 := row1 (unhide R)
  have F1 := hide (unhide E1 W (fun i hi => (unhide P i hi).next (unhide HB)))
  go_wp2_with fail
  go_fit (unhide F1)
  rintro r u1 ⟨m1, rfl, S, hm1, hb⟩
  replace S := hide S
  replace hm1 := hide hm1
  have hm1s := hide (unhide S).nmap.lt
  replace R := hide (row_next hb (unhide R))
  replace HB := hide (below_two (unhide HB) hb)
  clear hb c0 F1 E1
  have c0 := row1 (unhide R)
  have F2 := hide (unhide E2 u1 (fun i hi => (unhide P i hi).next (unhide HB)))
  go_wp2_with fail
  go_fit (unhide F2)
  rintro r u2 ⟨m2, V, rfl, T, hm2, hb⟩
  replace T := hide T
  replace hm2 := hide hm2
  have NM := hide ((unhide S).nmap.next hb)
  replace R := hide (row_next hb (unhide R))
  replace HB := hide (below_two (unhide HB) hb)
  clear hb c0 F2 E2 S
  have F3 := hide (unhide E3 u2 m1 m2 (m2 + 1) V (unhide NM) (unhide T) (by have := unhide hm1s; have := unhide hm2; omega) (by have := unhide hm1s; have := unhide hm2; omega))
  go_wp2_with fail
  go_fit (unhide F3)
  rintro r u3 ⟨rfl, G, NG, FI, hg⟩
  replace NG := hide NG
  have hL := hide (unhide hfin G FI)
  have hneb : Hid (b1 ≠ m1) := fun e => by have := unhide hm1; have := unhide hbs; have := unhide hb1; omega
  replace R := hide (show u3.heap[b1]? = some (.cells #[.slice ao n cp] 26 (0, 0)) from (hg.block b1 (heap_lt (unhide R)) (fun e => by cases e; exact unhide hneb rfl)).trans (unhide R))
  replace HB := hide (show Below w.heap.size w u3 from (unhide HB).grown hg (unhide HB).size (fun j e => by cases e; have := unhide hm1; have := unhide hbs; omega))
  clear hg FI hfin F3 E3 T NM hneb hm1 hm2 hm1s hbs hb1
  have c0 := row1 (row_next (al1_below u3 (.cells #[] 3)) (unhide R))
  go_upto_region 5 with fail
  clear c0
  obtain ⟨q, hq⟩ : ∃ q : Nat → Bool, Hid (q = fun k => G (X k).id) := ⟨_, rfl⟩
  have hqk : Hid (∀ k, q k = G (X k).id) := fun k => by rw [unhide hq]
  rw [← unhide hq] at hL
  clear hq
  go_loopw [6, 20] (fun v i u => ∃ (k : Nat) (p : Option Addr) (cap : Nat), k ≤ n ∧ i = .int .i64 (k : Int) ∧ v = .slice p (pickIds X q k).length cap ∧ Hid (u.ownsRow u3.heap.size 3 1 (.slice p (pickIds X q k).length cap) (pickIds X q k).length ((pickIds X q k).map Zv)) ∧ Hid (Below u3.heap.size u3 u)) (fun _ i _ => n - (intOf i).toNat)
  case atStart => exact ⟨0, some ⟨u3.heap.size, 0, none⟩, 0, Nat.zero_le _, rfl, rfl, World.ownsRow_lit u3 #[] 0 (Nat.le_refl _) (by decide) rfl, al1_below _ _⟩
  case round =>
    obtain ⟨k, p, cap, hk, rfl, rfl, O, D⟩ := hrel
    have hlen := pick_le X q k
    by_cases hkn : k < n
    · have hki : (k : Int) < (n : Int) := by omega
      have HP := hide ((unhide P k hkn).next (below_two (unhide HB) (unhide D)))
      have hqy := hide (fun (hx : G (X k).id = true) => show pickIds X q (k + 1) = pickIds X q k ++ [(X k).id] by rw [pickIds, if_pos (by rw [unhide hqk]; exact hx)])
      have hqn := hide (fun (hx : G (X k).id = false) => show pickIds X q (k + 1) = pickIds X q k by rw [pickIds, if_neg (by rw [unhide hqk, hx]; exact Bool.false_ne_true)])
      have hl0 := hide (fun (u : World) (h : NMap u m1 n (goneF G (stP ao X n))) => h.look (X k).id (unhide hw1 k hkn))
      have hfk := unhide hfst k hkn
      obtain ⟨xx, hxx⟩ : ∃ z, Hid (X k = z) := ⟨_, rfl⟩
      obtain ⟨ss, hss⟩ : ∃ z, Hid (A k = z) := ⟨_, rfl⟩
      rw [unhide hxx, unhide hss] at HP
      rw [unhide hxx] at hqy hqn hl0 hfk
      obtain ⟨b, o, hao, hrg⟩ := (unhide HP).range
      replace hrg := hide hrg
      subst hao
      have hst : Hid (stP (some ⟨b, o, none⟩) X n xx.id = .pointer (some ⟨b, o + k * 31, none⟩)) := stP_at hfk
      clear hfk
      go_upto_region 7 with (first | refine load_node rfl _ rfl b (o + k * 31) rfl xx ss (unhide hrg) ?_ | refine store_new rfl _ _ rfl _ xx ss rfl rfl rfl ?_)
      have R4 := hide (new_row wr (.cells (ndC xx ss) 41))
      have hl := unhide hl0 (wr.alloc (.cells (ndC xx ss) 41)) ((unhide NG).next (below_two (unhide D) (al1_below wr (.cells (ndC xx ss) 41))))
      replace O := hide ((unhide O).alloc (.cells (ndC xx ss) 41))
      replace D := hide (below_two (unhide D) (al1_below wr (.cells (ndC xx ss) 41)))
      clear hrg HP hl0
      generalize hW4 : wr.alloc (.cells (ndC xx ss) 41) = W4 at O D R4 hl ⊢
      clear hW4
      generalize wr.heap.size = b4 at R4 ⊢
      obtain ⟨c0, c1, _⟩ := headsC (unhide R4)
      cases hx : G xx.id with
      | true =>
        have e : goneF G (stP (some ⟨b, o, none⟩) X n) xx.id = .pointer none := by unfold goneF; rw [if_pos hx]
        rw [e] at hl
        have hqt := hide (unhide hqy hx)
        clear e hx
        generalize pickIds X q k = L at O hlen hqt ⊢
        go_wp2_with (at_builtin; go_must (refine wpList_append_vals W4 rfl _ _ 30 3 rfl u3.heap.size i0 (.int .i64 0) 8 Tryz.underlying30 hi hz0 hz1 hz2 rfl _ (L.map Zv) (by rfl) (own_ids (unhide O)) _ (by intro u hu; simp at hu; subst hu; rfl) 1 1 rfl (by rfl) (by unfold maxLen; simp; omega) (by simp; omega) u3 u3.heap.size (Nat.le_refl _) (unhide D).size (unhide D) ?_); intro v' w1 hown' hnx'; replace hown' := ids_snoc hown'; obtain ⟨p', cap', rfl⟩ := own_form hown'; replace hown' := hide hown'; replace hnx' := hide hnx'; refine Hid.out ?_)
        unfold Hid
        go_wp2_with fail
        go_roundw
        case rel => exact ⟨k + 1, p', cap', by omega, by go_num, by rw [unhide hqt, List.length_append]; rfl, by rw [unhide hqt]; exact unhide hown', hnx'⟩
        case measure => simp [intOf]; omega
      | false =>
        have e : goneF G (stP (some ⟨b, o, none⟩) X n) xx.id = .pointer (some ⟨b, o + k * 31, none⟩) := by unfold goneF; rw [if_neg (by rw [hx]; exact Bool.false_ne_true)]; exact unhide hst
        rw [e] at hl
        have hqt := hide (unhide hqn hx)
        clear e hx
        go_wp2_with fail
        go_roundw
        case rel => exact ⟨k + 1, p, cap, by omega, by go_num, by rw [unhide hqt], by rw [unhide hqt]; exact unhide O, D⟩
        case measure => simp [intOf]; omega
    · have hke : k = n := by omega
      subst hke
      have hki : ¬ (k : Int) < (k : Int) := by omega
      go_wp2_with fail
      go_ret
      rw [← unhide hL]
      exact ⟨p, cap, rfl, own_low (unhide O) (unhide HB).size, below_two (unhide HB) (unhide D)⟩

end Go.Proofs.YtmafopckplpajaaGreatDoor

/-
  errors.As at a target of the program's own error type (a struct of one number), and codeOf. (By mkas.py.)
-/
namespace Go.Proofs.YtmafopckplpajaaGreatDoor
open Go.RowKit Go.Extern.Stop Go.Stop Go.Extern
set_option linter.unusedVariables false

theorem asNil (t : Value) (w : World) : Calls Tryz.prog 101 #[.nilIface, t] w fun e w' => e = .returned (.bool false) ∧ w' = w := by
  go_enter Tryz.func101, Tryz.ntmps101
  go_wp2
  go_ret
  exact ⟨rfl, rfl⟩

theorem as_valueOfP (t : Addr) (w : World) : (ReflectliteValue.unpack (.iface 133 (.pointer (some t)))).run Tryz.prog w
    = .ok (.agg #[.pointer (some ⟨1, 133, none⟩), .pointer (some ⟨w.heap.size, 0, none⟩), .int .u64 150]) (w.alloc (.cells #[.pointer (some t)] 133)) := by kernel_rfl
theorem as_typeP (a : Addr) (w : World) : (ReflectliteValue.methodAny (ReflectliteValue.valueError "reflectlite.Value.Type" 0) (fun t _ _ _ => ReflectliteType.toType t) #[.agg #[.pointer (some ⟨1, 133, none⟩), .pointer (some a), .int .u64 150]]).run Tryz.prog w
    = .ok (.iface 181 (.agg #[.pointer (some ⟨1, 133, none⟩)])) w := by kernel_rfl
theorem as_methodKind (f : Nat) (h : Value) (w : World) : (Go.method (f + 1) 181 (.agg #[h]) "Kind").run Tryz.prog w = .ok (182, h) w := by kernel_rfl
theorem as_kindP (w : World) : ((ReflectliteType.abiMethod fun t => (fun a : Nat => Value.int IntKind.u8 (a : Int)) <$> Rtype.kind t) #[.pointer (some ⟨1, 133, none⟩)]).run Tryz.prog w = .ok (.int .u8 22) w := by kernel_rfl
theorem as_kindS (w : World) : ((ReflectliteType.abiMethod fun t => (fun a : Nat => Value.int IntKind.u8 (a : Int)) <$> Rtype.kind t) #[.pointer (some ⟨1, 130, none⟩)]).run Tryz.prog w = .ok (.int .u8 25) w := by kernel_rfl
theorem as_rlm (z : Sem Value) (f : TypeId → Addr → Nat → Nat → Sem Value) (v : Value) :
    ReflectliteValue.method z f #[v] = (do match ← ReflectliteValue.parts v with | none => z | some (t, a, fl) => f t a fl (fl % 32)) := rfl
theorem as_partsP (a : Addr) (w : World) : (ReflectliteValue.parts (.agg #[.pointer (some ⟨1, 133, none⟩), .pointer (some a), .int .u64 150])).run Tryz.prog w = .ok (some (133, a, 150)) w := by kernel_rfl
theorem as_isNilP (a p : Addr) (W : World) (ha : W.cell? a = some (.pointer (some p))) :
    (ReflectliteValue.method (ReflectliteValue.valueError "reflectlite.Value.IsNil" 0) ReflectliteValue.isNil #[.agg #[.pointer (some ⟨1, 133, none⟩), .pointer (some a), .int .u64 150]]).run Tryz.prog W = .ok (.bool false) W := by
  rw [as_rlm]
  simp only [Sem.run_bind, as_partsP, Result.andThen]
  simp [ReflectliteValue.isNil, loadVar, isAgg, underlying, Tryz.underlying133, ha, Result.andThen]
theorem as_methodElem (f : Nat) (h : Value) (w : World) : (Go.method (f + 1) 181 (.agg #[h]) "Elem").run Tryz.prog w = .ok (192, .agg #[h]) w := by kernel_rfl
theorem as_methodImplements (f : Nat) (h : Value) (w : World) : (Go.method (f + 1) 181 (.agg #[h]) "Implements").run Tryz.prog w = .ok (193, .agg #[h]) w := by kernel_rfl
theorem as_methodAssignableTo (f : Nat) (h : Value) (w : World) : (Go.method (f + 1) 181 (.agg #[h]) "AssignableTo").run Tryz.prog w = .ok (190, .agg #[h]) w := by kernel_rfl
theorem as_elemP (w : World) : (ReflectliteType.method ReflectliteType.elem #[.agg #[.pointer (some ⟨1, 133, none⟩)]]).run Tryz.prog w = .ok (.iface 181 (.agg #[.pointer (some ⟨1, 130, none⟩)])) w := by kernel_rfl
theorem as_implementsS (w : World) : (ReflectliteType.relation "Implements" ReflectliteType.implements_ #[.agg #[.pointer (some ⟨1, 130, none⟩)], .iface 181 (.agg #[.pointer (some ⟨1, 84, none⟩)])]).run Tryz.prog w = .ok (.bool true) w := by kernel_rfl
theorem as_typeOfS (v : Value) (w : World) : (ReflectliteType.typeOf #[.iface 130 v]).run Tryz.prog w = .ok (.iface 181 (.agg #[.pointer (some ⟨1, 130, none⟩)])) w := by kernel_rfl
theorem as_assignableS (w : World) : (ReflectliteType.relation "AssignableTo" ReflectliteType.assignableTo #[.agg #[.pointer (some ⟨1, 130, none⟩)], .iface 181 (.agg #[.pointer (some ⟨1, 130, none⟩)])]).run Tryz.prog w = .ok (.bool true) w := by kernel_rfl
theorem as_valueOfS (c : Int) (w : World) : (ReflectliteValue.unpack (.iface 130 (.agg #[.int .i64 c]))).run Tryz.prog w
    = .ok (.agg #[.pointer (some ⟨1, 130, none⟩), .pointer (some ⟨w.heap.size, 0, none⟩), .int .u64 153]) (w.alloc (.cells #[.int .i64 c] 130)) := by kernel_rfl
theorem as_elemOfP (w : World) : (Rtype.elem? 133).run Tryz.prog w = .ok (some 130) w := by kernel_rfl
theorem as_mkS (p : Addr) (w : World) : (ReflectliteValue.mk 130 p ReflectliteValue.flagAddr).run Tryz.prog w = .ok (.agg #[.pointer (some ⟨1, 130, none⟩), .pointer (some p), .int .u64 409]) w := by kernel_rfl
theorem as_elemVP (a p : Addr) (W : World) (ha : W.cell? a = some (.pointer (some p))) :
    (ReflectliteValue.method (ReflectliteValue.valueError "reflectlite.Value.Elem" 0) ReflectliteValue.elem #[.agg #[.pointer (some ⟨1, 133, none⟩), .pointer (some a), .int .u64 150]]).run Tryz.prog W
      = .ok (.agg #[.pointer (some ⟨1, 130, none⟩), .pointer (some p), .int .u64 409]) W := by
  rw [as_rlm]
  simp only [Sem.run_bind, as_partsP, Result.andThen]
  simp [ReflectliteValue.elem, loadVar, isAgg, underlying, Tryz.underlying133, ha, Result.andThen, as_elemOfP, as_mkS]
theorem as_rls (v x : Value) : ReflectliteValue.set #[v, x] = (do
    let (some (dst, a, fl), some (src, b, _)) := (← ReflectliteValue.parts v, ← ReflectliteValue.parts x)
      | unsupported (.noEntry "extern/(internal/reflectlite.Value).Set.zeroValue")
    if fl / ReflectliteValue.flagAddr % 2 == 0 then unsupported (.noEntry "extern/(internal/reflectlite.Value).Set.unaddressable")
    let val ← loadVar src b
    if ← Rtype.directlyAssignable dst src then storeVar dst a val
    else if ← Rtype.implements dst src then
      if (← Rtype.kind src) == 20 then
        match val with
        | .nilIface => unsupported (.noEntry "extern/reflectlite: a nil value of one interface type handed on as a value of another")
        | _ => storeVar dst a val
      else storeVar dst a (.iface src val)
    else panicString ("reflectlite.Set: value of type " ++ (← Rtype.spelt src) ++ " is not assignable to type " ++ (← Rtype.spelt dst))
    pure (.tuple #[])) := rfl
theorem as_partsSa (a : Addr) (w : World) : (ReflectliteValue.parts (.agg #[.pointer (some ⟨1, 130, none⟩), .pointer (some a), .int .u64 409])).run Tryz.prog w = .ok (some (130, a, 409)) w := by kernel_rfl
theorem as_partsS (a : Addr) (w : World) : (ReflectliteValue.parts (.agg #[.pointer (some ⟨1, 130, none⟩), .pointer (some a), .int .u64 153])).run Tryz.prog w = .ok (some (130, a, 153)) w := by kernel_rfl
theorem as_directS (w : World) : (Rtype.directlyAssignable 130 130).run Tryz.prog w = .ok true w := by kernel_rfl
theorem as_loadS (b : Nat) (c : Int) (W : World) (hb : W.cell? ⟨b, 0, none⟩ = some (.int .i64 c)) : (loadVar 130 ⟨b, 0, none⟩).run Tryz.prog W = .ok (.agg #[.int .i64 c]) W :=
  run_loadVar_mid W b 0 130 [.int .i64 c] _ (fun j v hv => by cases j with | zero => (simp at hv; subst hv; exact hb) | succ j => simp at hv) Tryz.underlying130 rfl (by kernel_rfl)
theorem as_storeS (t : Nat) (c : Int) (old : Value) (W : World) (ht : W.cell? ⟨t, 0, none⟩ = some old) (hf : W.frozen? ⟨t, 0, none⟩ = false) : (storeVar 130 ⟨t, 0, none⟩ (.agg #[.int .i64 c])).run Tryz.prog W = .ok () (W.setCell ⟨t, 0, none⟩ (.int .i64 c)) :=
  run_storeVar_mid W t 0 130 #[.int .i64 c] (fun j hj => by cases j with | zero => exact ⟨by rw [ht]; rfl, hf⟩ | succ j => simp at hj) (by kernel_rfl) (by simp [Value.oneCell'])
theorem as_setS (t b : Nat) (c : Int) (old : Value) (W : World) (hb : W.cell? ⟨b, 0, none⟩ = some (.int .i64 c)) (ht : W.cell? ⟨t, 0, none⟩ = some old) (hf : W.frozen? ⟨t, 0, none⟩ = false) :
    (ReflectliteValue.set #[.agg #[.pointer (some ⟨1, 130, none⟩), .pointer (some ⟨t, 0, none⟩), .int .u64 409], .agg #[.pointer (some ⟨1, 130, none⟩), .pointer (some ⟨b, 0, none⟩), .int .u64 153]]).run Tryz.prog W
      = .ok (.tuple #[]) (W.setCell ⟨t, 0, none⟩ (.int .i64 c)) := by
  rw [as_rls]
  simp only [Sem.run_bind, as_partsSa, as_partsS, Result.andThen]
  simp [ReflectliteValue.flagAddr, as_loadS b c W hb, Result.andThen, as_directS, as_storeS t c old W ht hf]

set_option maxHeartbeats 4000000 in
theorem asHit (c : Int) (tb : Nat) (old : Value) (w : World) (hg : w.cell? ⟨0, 0, none⟩ = some (.iface 181 (.agg #[.pointer (some ⟨1, 84, none⟩)]))) (ht0 : w.cell? ⟨tb, 0, none⟩ = some old) (hf0 : w.frozen? ⟨tb, 0, none⟩ = false) :
    Calls Tryz.prog 101 #[.iface 130 (.agg #[.int .i64 c]), .iface 133 (.pointer (some ⟨tb, 0, none⟩))] w fun ev w' => ev = .returned (.bool true) ∧ w' = ((((w.alloc (.cells #[.pointer (some ⟨tb, 0, none⟩)] 133)).alloc (.cells #[.pointer (some ⟨1, 133, none⟩), .pointer (some ⟨w.heap.size, 0, none⟩), .int .u64 150] 164)).alloc (.cells #[.pointer (some ⟨1, 133, none⟩), .pointer (some ⟨w.heap.size, 0, none⟩), .int .u64 150] 164)).alloc (.cells #[.int .i64 c] 130)).setCell ⟨tb, 0, none⟩ (.int .i64 c) := by
  have h6 := @run_callFunc_extern Tryz.prog 146 _ (fun args => ReflectliteValue.unpack (args.getD 0 (.tuple #[]))) Tryz.func146 (by kernel_rfl) (by kernel_rfl) (by kernel_rfl) (by kernel_rfl)
  have h7 := @run_callFunc_extern Tryz.prog 147 _ (ReflectliteValue.methodAny (ReflectliteValue.valueError "reflectlite.Value.Type" 0) (fun t _ _ _ => ReflectliteType.toType t)) Tryz.func147 (by kernel_rfl) (by kernel_rfl) (by kernel_rfl) (by kernel_rfl)
  have h8 := @run_callFunc_extern Tryz.prog 148 _ (ReflectliteValue.method (ReflectliteValue.valueError "reflectlite.Value.IsNil" 0) ReflectliteValue.isNil) Tryz.func148 (by kernel_rfl) (by kernel_rfl) (by kernel_rfl) (by kernel_rfl)
  have h27 := @run_callFunc_extern Tryz.prog 182 _ (ReflectliteType.abiMethod fun t => do pure (.int .u8 (← Rtype.kind t))) Tryz.func182 (by kernel_rfl) (by kernel_rfl) (by kernel_rfl) (by kernel_rfl)
  have h37 := @run_callFunc_extern Tryz.prog 192 _ (ReflectliteType.method ReflectliteType.elem) Tryz.func192 (by kernel_rfl) (by kernel_rfl) (by kernel_rfl) (by kernel_rfl)
  have h38 := @run_callFunc_extern Tryz.prog 193 _ (ReflectliteType.relation "Implements" ReflectliteType.implements_) Tryz.func193 (by kernel_rfl) (by kernel_rfl) (by kernel_rfl) (by kernel_rfl)
  have h10 := @run_callFunc_extern Tryz.prog 160 _ ReflectliteType.typeOf Tryz.func160 (by kernel_rfl) (by kernel_rfl) (by kernel_rfl) (by kernel_rfl)
  have h35 := @run_callFunc_extern Tryz.prog 190 _ (ReflectliteType.relation "AssignableTo" ReflectliteType.assignableTo) Tryz.func190 (by kernel_rfl) (by kernel_rfl) (by kernel_rfl) (by kernel_rfl)
  have h11 := @run_callFunc_extern Tryz.prog 161 _ (ReflectliteValue.method (ReflectliteValue.valueError "reflectlite.Value.Elem" 0) ReflectliteValue.elem) Tryz.func161 (by kernel_rfl) (by kernel_rfl) (by kernel_rfl) (by kernel_rfl)
  have h12 := @run_callFunc_extern Tryz.prog 162 _ ReflectliteValue.set Tryz.func162 (by kernel_rfl) (by kernel_rfl) (by kernel_rfl) (by kernel_rfl)
  have tO := as_typeOfS
  have mA := as_methodAssignableTo
  have a25 := as_assignableS
  have v25 := as_valueOfS
  have f6 := as_valueOfP
  have f7 := as_typeP
  have mK := as_methodKind
  have mE := as_methodElem
  have mI := as_methodImplements
  have k27 := as_kindP
  have k25 := as_kindS
  have e27 := as_elemP
  have i25 := as_implementsS
  have n8 := as_isNilP ⟨w.heap.size, 0, none⟩ ⟨tb, 0, none⟩ ((w.alloc (.cells #[.pointer (some ⟨tb, 0, none⟩)] 133)).alloc (.cells #[.pointer (some ⟨1, 133, none⟩), .pointer (some ⟨w.heap.size, 0, none⟩), .int .u64 150] 164)) (by simp)
  have hlt : 0 < w.heap.size := by
    rcases Nat.eq_zero_or_pos w.heap.size with h0 | h
    · simp [World.cell?, h0] at hg
    · exact h
  have hg2 : ((w.alloc (.cells #[.pointer (some ⟨tb, 0, none⟩)] 133)).alloc (.cells #[.pointer (some ⟨1, 133, none⟩), .pointer (some ⟨w.heap.size, 0, none⟩), .int .u64 150] 164)).cell? ⟨0, 0, none⟩ = some (.iface 181 (.agg #[.pointer (some ⟨1, 84, none⟩)])) := by
    rw [World.cell?_alloc_lt _ _ ⟨0, 0, none⟩ (by simp), World.cell?_alloc_lt _ _ ⟨0, 0, none⟩ hlt]; exact hg
  have htl : tb < w.heap.size := by
    rcases Nat.lt_or_ge tb w.heap.size with h | h
    · exact h
    · simp [World.cell?, Array.getElem?_eq_none h] at ht0
  have el := as_elemVP ⟨w.heap.size, 0, none⟩ ⟨tb, 0, none⟩ (((w.alloc (.cells #[.pointer (some ⟨tb, 0, none⟩)] 133)).alloc (.cells #[.pointer (some ⟨1, 133, none⟩), .pointer (some ⟨w.heap.size, 0, none⟩), .int .u64 150] 164)).alloc (.cells #[.pointer (some ⟨1, 133, none⟩), .pointer (some ⟨w.heap.size, 0, none⟩), .int .u64 150] 164)) (by rw [World.cell?_alloc_lt _ _ ⟨w.heap.size, 0, none⟩ (by simp; omega)]; simp)
  have st := as_setS tb (w.heap.size + 1 + 1 + 1) c old ((((w.alloc (.cells #[.pointer (some ⟨tb, 0, none⟩)] 133)).alloc (.cells #[.pointer (some ⟨1, 133, none⟩), .pointer (some ⟨w.heap.size, 0, none⟩), .int .u64 150] 164)).alloc (.cells #[.pointer (some ⟨1, 133, none⟩), .pointer (some ⟨w.heap.size, 0, none⟩), .int .u64 150] 164)).alloc (.cells #[.int .i64 c] 130))
    (by rw [World.cell?_alloc_at _ _ _ _ (by simp)]; rfl)
    (by rw [World.cell?_alloc_lt _ _ ⟨tb, 0, none⟩ (by simp; omega), World.cell?_alloc_lt _ _ ⟨tb, 0, none⟩ (by simp; omega), World.cell?_alloc_lt _ _ ⟨tb, 0, none⟩ (by simp; omega), World.cell?_alloc_lt _ _ ⟨tb, 0, none⟩ htl]; exact ht0)
    (by rw [World.frozen?_alloc_old _ _ ⟨tb, 0, none⟩ (by simp; omega), World.frozen?_alloc_old _ _ ⟨tb, 0, none⟩ (by simp; omega), World.frozen?_alloc_old _ _ ⟨tb, 0, none⟩ (by simp; omega), World.frozen?_alloc_old _ _ ⟨tb, 0, none⟩ (Nat.ne_of_lt htl)]; exact hf0)
  go_enter Tryz.func101, Tryz.ntmps101
  go_wp2
  refine wp_loop_rounds 1 ?_
  rw [rounds_succ]
  go_wp2
  go_ret
  exact ⟨rfl, rfl⟩
/-- errors.errorType, as it is laid. -/
def ErrT (w : World) : Prop := w.cell? ⟨0, 0, none⟩ = some (.iface 181 (.agg #[.pointer (some ⟨1, 84, none⟩)]))
theorem ErrT.next {w u : World} (h : ErrT w) (hb : Below w.heap.size w u) : ErrT u := kc hb h
theorem ErrT.low {w u : World} {B : Nat} (h : ErrT w) (hB : 0 < B) (hb : Below B w u) : ErrT u := by
  unfold ErrT at h ⊢
  rw [World.cell?_of_block (hb.block 0 hB)]
  exact h
/-- What an error is: none, or a refusal with a code. -/
def errV (c : Int) : Value := if c = 0 then .nilIface else .iface 130 (.agg #[.int .i64 c])

set_option maxHeartbeats 4000000 in
theorem implCodeOf_any (c : Int) (w : World) (hg : ErrT w) :
    Calls Tryz.prog 44 #[errV c] w fun r w' => r = .returned (.int .i64 c) ∧ Below w.heap.size w w' := by
  by_cases h0 : c = 0
  · subst h0
    have E := hide (asNil)
    rw [show errV 0 = .nilIface from if_pos rfl]
    go_enter Tryz.func44, Tryz.ntmps44
    go_wp2_with fail
    go_fit (unhide E _ _)
    rintro r u ⟨rfl, rfl⟩
    go_wp2_with fail
    go_ret
    exact ⟨rfl, al1_below _ _⟩
  · rw [show errV c = .iface 130 (.agg #[.int .i64 c]) from if_neg h0]
    have R := hide (new_row w (.cells #[.int .i64 0] 130))
    have HB := hide (al1_below w (.cells #[.int .i64 0] 130))
    have E := hide (asHit c w.heap.size (.int .i64 0) (w.alloc (.cells #[.int .i64 0] 130)) (hg.next (unhide HB)) (cell_of_row _ _ _ _ _ _ (unhide R)) (frozen_of_row _ _ _ _ _ (unhide R)))
    clear hg h0
    go_enter Tryz.func44, Tryz.ntmps44
    go_wp2_with fail
    go_fit (unhide E)
    rintro r u ⟨rfl, hu⟩
    have hb : Hid (Below w.heap.size w u ∧ u.cell? ⟨w.heap.size, 0, none⟩ = some (.int .i64 c)) := by
      rw [hu]
      refine ⟨Below.setCell (p := ⟨w.heap.size, 0, none⟩) ?_ (Nat.le_refl _) _, ?_⟩
      · exact below_two (below_two (below_two (below_two (unhide HB) (al1_below _ _)) (al1_below _ _)) (al1_below _ _)) (al1_below _ _)
      · exact World.cell?_setCell_same _ _ _ (by rw [World.cell?_alloc_lt _ _ _ (by simp; omega), World.cell?_alloc_lt _ _ _ (by simp; omega), World.cell?_alloc_lt _ _ _ (by simp; omega), World.cell?_alloc_lt _ _ _ (by simp)]; exact cell_of_row _ _ _ _ _ _ (unhide R))
    have hc := (unhide hb).2
    clear hu
    go_wp2_with fail
    go_ret
    exact ⟨rfl, (unhide hb).1⟩
end Go.Proofs.YtmafopckplpajaaGreatDoor

/-
  Changes: what both sides reckon; guarded loads of nodes.
-/
namespace Go.Proofs.YtmafopckplpajaaGreatDoor
open Go.RowKit
set_option linter.unusedVariables false

/-- A scene and a code that are handed back. -/
def ChRes (w : World) (r : Ending) (w' : World) (c : Int) (n : Nat) (X : Nat → Nd) : Prop := ∃ a cc A, r = .returned (.tuple #[.agg #[.slice a n cc], .int .i64 c]) ∧ SG w' w.heap.size w'.heap.size a n cc X A ∧ Below w.heap.size w w'
noncomputable def createC (X : Nat → Nd) (n : Nat) (x : Nd) : Int :=
  if ¬ (sceneOkB X n = true ∧ nodeOkB x = true) then 1 else if 0 ≤ firstN X x.id n then 3 else if holdB X n x.par = false then 2 else if n = 8 then 4 else if 4 ≤ depthI X n x.par then 5 else 0
noncomputable def changeC (X : Nat → Nd) (n : Nat) (id : Int) : Int := if ¬ sceneOkB X n = true then 1 else if firstN X id n < 0 then 2 else 0
noncomputable def setC16 (X : Nat → Nd) (n : Nat) (x : Nd) : Int :=
  if ¬ (sceneOkB X n = true ∧ nodeOkB x = true) then 1 else if firstN X x.id n < 0 then 2 else if x.gr = false ∧ 0 < (kidsL X n x.id).length then 1 else 0
noncomputable def createN (X : Nat → Nd) (n : Nat) (x : Nd) : Nat := if createC X n x = 0 then n + 1 else n
noncomputable def createX (X : Nat → Nd) (n : Nat) (x : Nd) : Nat → Nd := if createC X n x = 0 then upd X n x else X
theorem errV_is {c : Int} (h : c ≠ 0) : errV c = .iface 130 (.agg #[.int .i64 c]) := if_neg h
theorem errV_nil : errV 0 = .nilIface := if_pos rfl
theorem depth_nn {X : Nat → Nd} {n : Nat} : ∀ (f : Nat) (c id : Int), 0 ≤ c → 0 ≤ depthN X n f c id
  | 0, _, _, _ => by unfold depthN; exact Int.le_refl _
  | f + 1, c, id, h => by
    unfold depthN
    split
    · exact h
    · split
      · exact Int.le_refl _
      · exact depth_nn f (c + 1) _ (by omega)
theorem depth_le {X : Nat → Nd} {n : Nat} : ∀ (f : Nat) (c id : Int), 0 ≤ c → depthN X n f c id ≤ c + f
  | 0, c, _, h => by unfold depthN; omega
  | f + 1, c, id, h => by
    unfold depthN
    split
    · omega
    · split
      · omega
      · have := depth_le (X := X) (n := n) f (c + 1) (X (firstN X id n).toNat).par (by omega); omega
theorem load_own_g {ops : Array Oper} {rest : List Oper} {op : Oper} {a : Act} {w : World} {Q : Exit → Act → World → Prop} (hw : Region.wanted op (yielded ops a.tmps) = true) (y : Operand) (ho : op.op = .load 41 y)
    (b : Nat) (hx : a.eval y = .pointer (some ⟨b, 0, none⟩)) (x : Nd) (s : Na) (t : TypeId) (hc : w.heap[b]? = some (.cells (ndC x s) t (0, 0)))
    (h : wpList Tryz.prog ops Q rest (a.put op.dst (.agg (ndC x s))) w) : wpList Tryz.prog ops Q (op :: rest) a w :=
  wpList_step fun K hK => by
    rw [if_pos hw]
    exact wp_load_mid 41 y ho b 0 hx (ndC x s).toList _ (rowRng hc) Tryz.underlying41 rfl (ndC_infoL x s) (by rw [Array.toArray_toList]; exact hK _ _ h)
structure Wf (X : Nat → Nd) (n : Nat) : Prop where
  id : ∀ i, i < n → (Lit.int .i64 (X i).id).wf = true
  par : ∀ i, i < n → (Lit.int .i64 (X i).par).wf = true
theorem own_ty {w : World} {B e s n b : Nat} {v : Value} {xs : List Value} {cs : Array Value} {t : TypeId} {fz : Nat × Nat} (h : w.ownsRow B e s v n xs) (hb : w.heap[b]? = some (.cells cs t fz)) (ht : t ≠ e) : ∀ k, v.ownBlock = some k → k ≠ b := by
  rcases h.2 with ⟨rfl, _⟩ | ⟨g, cap, cur, rfl, _, hg, _⟩
  · intro k e; cases e
  · intro k e e2
    have e1 : g = k := Option.some.inj e
    subst e1
    subst e2
    rw [hg] at hb
    cases hb
    exact ht rfl
theorem lty_sc (l : Nat) : 26 ≠ lty l := by unfold lty; split <;> decide
/-- A variable of another kind can be written without harm to a scene. -/
theorem SG.setk {u : World} {base T n c b j : Nat} {p : Option Addr} {v : Value} {cs : Array Value} {fz : Nat × Nat} {X : Nat → Nd} {A : Nat → Na} (h : SG u base T p n c X A) (hb : u.heap[b]? = some (.cells cs 26 fz)) : SG (u.setCell ⟨b, j, none⟩ v) base T p n c X A :=
  let ⟨ys, h1, h2⟩ := h.row; ⟨⟨ys, own_setc_ne h1 (own_ty h1 hb (by decide)), h2⟩, fun j hj l hl => let ⟨xs, a1, a2⟩ := h.own j hj l hl; ⟨xs, own_setc_ne a1 (own_ty a1 hb (lty_sc l)), a2⟩, h.apt⟩
end Go.Proofs.YtmafopckplpajaaGreatDoor

/-
  The exact laws of chapter 16, from what the functions of both sides answer. (By changelaw.py.)
-/
namespace Go.Proofs.YtmafopckplpajaaGreatDoor
open Go.RowKit
set_option linter.unusedVariables false

theorem ScV.sg {w : World} {base n c : Nat} {a : Option Addr} {X : Nat → Nd} {A : Nat → Na} (h : ScV w base a n c X A) : SG w base w.heap.size a n c X A := by
  obtain ⟨b, ys, K, lo, rfl, h2, h3, h4, h5⟩ := h
  exact h5.sg h2 h3 h4 h5.top
/-- A node whose lists are one's own, below T. -/
def NdT (w : World) (base T : Nat) (x : Nd) (s : Na) : Prop := NdG w base x s ∧ ∀ l, l < 5 → ∀ k, (lvl x s l).ownBlock = some k → k < T
theorem NdG.ndT {w : World} {base : Nat} {x : Nd} {s : Na} (h : NdG w base x s) : NdT w base w.heap.size x s := ⟨h, fun l hl k e => ((h.own l hl).lt k e).2⟩
theorem NdT.next {w u : World} {base T : Nat} {x : Nd} {s : Na} (h : NdT w base T x s) (hb : Below w.heap.size w u) : NdT u base T x s := ⟨h.1.next hb, h.2⟩
theorem NdT.far {w u : World} {base T b T' : Nat} {x : Nd} {s : Na} (h : NdT w base T x s) (hF : FarB b T' w u) (hd : T ≤ b ∨ T' ≤ base) : NdT u base T x s :=
  ⟨⟨fun l hl => let ⟨xs, a1, a2⟩ := h.1.own l hl; ⟨xs, hF.own a1 (fun k e => by have h1 := h.2 l hl k e; have h2 := (a1.lt k e).1; omega), a2⟩, h.1.inj⟩, h.2⟩
theorem load_lown {ops : Array Oper} {rest : List Oper} {op : Oper} {a : Act} {w : World} {Q : Exit → Act → World → Prop} (hgd : op.guard = none) (y : Operand) (ho : op.op = .load 68 y)
    (b : Nat) (hx : a.eval y = .pointer (some ⟨b, 0, none⟩)) (x : Nd) (s : Na) (t : TypeId) (hc : w.heap[b]? = some (.cells (ndC x s) t (0, 0)))
    (h : wpList Tryz.prog ops Q rest (a.put op.dst (.agg (ndC x s))) w) : wpList Tryz.prog ops Q (op :: rest) a w :=
  load_lnode hgd y ho b 0 hx x s (rowRng hc) h
theorem yields_lnode {ops : Array Oper} {S : World → Prop} {op : Oper} {a : Act} (hw : Region.wanted op (yielded ops a.tmps) = true) (y : Operand) (ho : op.op = .load 68 y)
    (b o : Nat) (hx : a.eval y = .pointer (some ⟨b, o, none⟩)) (x : Nd) (s : Na) (hS : ∀ w, S w → w.rangeAt b o (ndC x s).toList) : YieldsIf Tryz.prog ops S op (.agg (ndC x s)) a := by
  have h := yieldsIf_load_mid (P := Tryz.prog) hw 68 y ho b o hx (ndC x s).toList _ hS Tryz.underlying68 rfl (by rw [Array.length_toList, ndC_size]; exact lnode_size)
  rwa [Array.toArray_toList] at h

set_option maxHeartbeats 4000000 in
theorem markPath_far (v1 v2 : Value) (base n m k : Nat) (hk : k ≤ 1000000000) (hn : n ≤ 1048576) (hm : m ≤ 1048576) (w : World) (h1 : ∃ xs, w.ownsRow base 3 1 v1 n xs) (h2 : ∃ xs, w.ownsRow base 37 2 v2 m xs) :
    Calls Tryz.prog 88 #[.agg #[v1, v2], .int .i64 k] w fun r w' => r = .returned (.int .i64 ((k + n + m * 2 : Nat) : Int)) ∧ ∃ u, Below w.heap.size w u ∧ ∃ u2, u.grownBy u2 v1.ownBlock ∧ u2.grownBy w' v2.ownBlock := by
  obtain ⟨xs, h1⟩ := h1
  obtain ⟨ys, h2⟩ := h2
  obtain ⟨a, c, rfl⟩ := own_form h1
  obtain ⟨b, d, rfl⟩ := own_form h2
  have E1 := hide (fun u zs (hu : u.ownsRow base 3 1 (.slice a n c) n zs) => markIntS_any (.slice a n c) base n k zs (by omega) hn u hu)
  have E2 := hide (fun u zs (hu : u.ownsRow base 37 2 (.slice b m d) m zs) => markPointS_any (.slice b m d) base m (k + n) zs (by omega) hm u hu)
  have hap := own_kind h2 h1 (by decide)
  go_enter Tryz.func88, Tryz.ntmps88
  go_upto_region 1 with fail
  have R := hide (new_row w (.cells #[.slice a n c, .slice b m d] 33))
  have HB := hide (al1_below w (.cells #[.slice a n c, .slice b m d] 33))
  replace h1 := hide (own_below h1 (unhide HB))
  replace h2 := hide (own_below h2 (unhide HB))
  have hlt := hide (show ∀ q, (Value.slice a n c).ownBlock = some q → q ≠ w.heap.size from own_ty (unhide h1) (unhide R) (by decide))
  generalize w.alloc (.cells #[.slice a n c, .slice b m d] 33) = W at R HB h1 h2 ⊢
  obtain ⟨b1, hb1⟩ : ∃ b, Hid (b = w.heap.size) := ⟨_, rfl⟩
  rw [← unhide hb1] at R hlt ⊢
  obtain ⟨c0, c1⟩ := row2 (unhide R)
  go_wp2_with fail
  go_fit (unhide E1 _ _ (unhide h1))
  rintro r u1 ⟨rfl, _, hg⟩
  replace R := hide ((hg.block b1 (heap_lt (unhide R)) (fun e => unhide hlt b1 e.symm rfl)).trans (unhide R))
  replace h2 := hide ((unhide h2).kept hg (by
    cases hk : (Value.slice b m d).ownBlock with
    | none => exact .inl rfl
    | some q => exact .inr (fun e => hap q hk e.symm)))
  replace hg := hide hg
  clear c0 c1 h1
  obtain ⟨c0, c1⟩ := row2 (unhide R)
  go_wp2_with fail
  go_fit (unhide E2 _ _ (unhide h2))
  rintro r u2 ⟨rfl, _, hg2⟩
  replace hg2 := hide hg2
  clear c0 c1
  go_wp2_with fail
  go_ret
  exact ⟨rfl, W, unhide HB, u1, unhide hg, unhide hg2⟩
theorem FarB.more {b T : Nat} {w u v u2 u' : World} {k1 k2 : Option Nat} (h : FarB b T w u) (hb : Below u.heap.size u v) (g1 : v.grownBy u2 k1) (g2 : u2.grownBy u' k2) (h1 : ∀ q, k1 = some q → b ≤ q ∧ q < T) (h2 : ∀ q, k2 = some q → b ≤ q ∧ q < T) : FarB b T w u' :=
  (((h.grown (k := none) ⟨hb.os, hb.tape, hb.output, hb.size, fun q hq _ => hb.block q hq⟩ (fun q e => by cases e)).grown g1 h1).grown g2 h2)

set_option maxHeartbeats 4000000 in
set_option maxRecDepth 100000 in
theorem markNode_far (x : Nd) (s : Na) (hs : x.Small) (base T k : Nat) (hk : k ≤ 100000000) (w : World) (h : NdT w base T x s) :
    Calls Tryz.prog 34 #[.agg (ndC x s), .int .i64 k] w fun r w' => (∃ q : Nat, r = .returned (.int .i64 (q : Int))) ∧ FarB base T w w' := by
  have E1 := hide (fun u hk => markPath_far (.slice s.av x.nv s.cv) (.slice s.ap x.np s.cp) base x.nv x.np k hk hs.nv hs.np u)
  have E2 := hide (fun u zs hk (hu : u.ownsRow base 3 1 (.slice s.ad x.nd s.cd) x.nd zs) => markIntS_any (.slice s.ad x.nd s.cd) base x.nd (k + x.nv + x.np * 2) zs hk hs.nd u hu)
  have E3 := hide (fun u hk => markPath_far (.slice s.bv x.mv s.dv) (.slice s.bp x.mp s.dp) base x.mv x.mp (k + x.nv + x.np * 2 + x.nd) hk hs.mv hs.mp u)
  have b1 := hs.nv
  have b2 := hs.np
  have b3 := hs.nd
  have hO := hide h.1.own
  have hI := hide h.1.inj
  have hT := hide (show ∀ l, l < 5 → ∀ q, (lvl x s l).ownBlock = some q → base ≤ q ∧ q < T from fun l hl q e => ⟨((h.1.own l hl).lt q e).1, h.2 l hl q e⟩)
  have hW := hide (show ∀ l, l < 5 → ∀ q, (lvl x s l).ownBlock = some q → q ≠ w.heap.size from fun l hl q e => Nat.ne_of_lt ((h.1.own l hl).lt q e).2)
  have off := hide (show ∀ l m, l < 5 → m < 5 → l ≠ m → (lvl x s l).ownBlock = none ∨ (lvl x s l).ownBlock ≠ (lvl x s m).ownBlock from fun l m hl hm hne => by
    cases hk : (lvl x s l).ownBlock with
    | none => exact .inl rfl
    | some q => exact .inr (fun e => hne (h.1.inj l m hl hm q hk e.symm)))
  clear h hs
  go_enter Tryz.func34, Tryz.ntmps34
  go_upto_region 1 with fail
  have R := hide (new_row w (.cells (ndC x s) 41))
  have HB := hide (al1_below w (.cells (ndC x s) 41))
  replace hO := hide (fun l hl => (unhide hO l hl).next (unhide HB))
  have HF := hide (show FarB base T w (w.alloc (.cells (ndC x s) 41)) from (FarB.refl base T _).pre (unhide HB))
  generalize w.alloc (.cells (ndC x s) 41) = W at R HB hO HF ⊢
  obtain ⟨bb, hbb⟩ : ∃ b, Hid (b = w.heap.size) := ⟨_, rfl⟩
  rw [← unhide hbb] at R hW ⊢
  have F1 := hide (unhide E1 W (by omega) (let ⟨xs, h1, _⟩ := unhide hO 0 (by omega); ⟨xs, h1⟩) (let ⟨xs, h1, _⟩ := unhide hO 1 (by omega); ⟨xs, h1⟩))
  obtain ⟨c0, c1, c2, c3, c4, c5, c6, c7, c8, c9, c10, c11, c12, c13, c14, c15, c16, c17, c18, c19, c20, c21, c22, c23, c24, c25, c26, c27, c28, c29, c30⟩ := row31 (unhide R)
  go_wp2_with fail
  go_fit (unhide F1)
  rintro r u1 ⟨rfl, v1, hb, v2, g1, g2⟩
  clear c0 c1 c2 c3 c4 c5 c6 c7 c8 c9 c10 c11 c12 c13 c14 c15 c16 c17 c18 c19 c20 c21 c22 c23 c24 c25 c26 c27 c28 c29 c30 F1
  replace HF := hide ((unhide HF).more hb g1 g2 (unhide hT 0 (by omega)) (unhide hT 1 (by omega)))
  have hO2 := hide (show ∀ l, l < 5 → l ≠ 0 → l ≠ 1 → OwnL u1 base x s l from fun l hl n0 n1 => (((unhide hO l hl).next hb).kept g1 (unhide off l 0 hl (by omega) n0)).kept g2 (unhide off l 1 hl (by omega) n1))
  have R1 := hide ((g1.block bb (heap_lt (row_next hb (unhide R))) (fun e => unhide hW 0 (by omega) bb e.symm rfl)).trans (row_next hb (unhide R)))
  replace R := hide ((g2.block bb (heap_lt (unhide R1)) (fun e => unhide hW 1 (by omega) bb e.symm rfl)).trans (unhide R1))
  clear hO hb g1 g2 R1
  obtain ⟨xs2, o2, _⟩ := unhide hO2 2 (by omega) (by omega) (by omega)
  have F2 := hide (unhide E2 u1 xs2 (by omega) o2)
  obtain ⟨c0, c1, c2, c3, c4, c5, c6, c7, c8, c9, c10, c11, c12, c13, c14, c15, c16, c17, c18, c19, c20, c21, c22, c23, c24, c25, c26, c27, c28, c29, c30⟩ := row31 (unhide R)
  clear o2
  go_wp2_with fail
  go_fit (unhide F2)
  rintro r u2 ⟨rfl, _, g3⟩
  clear c0 c1 c2 c3 c4 c5 c6 c7 c8 c9 c10 c11 c12 c13 c14 c15 c16 c17 c18 c19 c20 c21 c22 c23 c24 c25 c26 c27 c28 c29 c30 F2
  replace HF := hide ((unhide HF).grown g3 (unhide hT 2 (by omega)))
  have hO3 := hide (show ∀ l, l < 5 → l ≠ 0 → l ≠ 1 → l ≠ 2 → OwnL u2 base x s l from fun l hl n0 n1 n2 => (unhide hO2 l hl n0 n1).kept g3 (unhide off l 2 hl (by omega) n2))
  replace R := hide ((g3.block bb (heap_lt (unhide R)) (fun e => unhide hW 2 (by omega) bb e.symm rfl)).trans (unhide R))
  clear hO2 g3
  have F3 := hide (unhide E3 u2 (by omega) (let ⟨xs, h1, _⟩ := unhide hO3 3 (by omega) (by omega) (by omega) (by omega); ⟨xs, h1⟩) (let ⟨xs, h1, _⟩ := unhide hO3 4 (by omega) (by omega) (by omega) (by omega); ⟨xs, h1⟩))
  obtain ⟨c0, c1, c2, c3, c4, c5, c6, c7, c8, c9, c10, c11, c12, c13, c14, c15, c16, c17, c18, c19, c20, c21, c22, c23, c24, c25, c26, c27, c28, c29, c30⟩ := row31 (unhide R)
  go_wp2_with fail
  go_fit (unhide F3)
  rintro r u3 ⟨rfl, v1, hb, v2, g1, g2⟩
  replace HF := hide ((unhide HF).more hb g1 g2 (unhide hT 3 (by omega)) (unhide hT 4 (by omega)))
  clear c0 c1 c2 c3 c4 c5 c6 c7 c8 c9 c10 c11 c12 c13 c14 c15 c16 c17 c18 c19 c20 c21 c22 c23 c24 c25 c26 c27 c28 c29 c30 F3 hb g1 g2
  go_wp2_with fail
  go_ret
  exact ⟨⟨_, rfl⟩, unhide HF⟩
end Go.Proofs.YtmafopckplpajaaGreatDoor

/-
  The program's mayChange, mayCreate, maySet.
-/
namespace Go.Proofs.YtmafopckplpajaaGreatDoor
open Go.RowKit
set_option linter.unusedVariables false

set_option maxHeartbeats 4000000 in
theorem implMayChange_any (X : Nat → Nd) (A : Nat → Na) (ao : Option Addr) (n cp : Nat) (hn : n ≤ 1048576) (hs : ∀ i, i < n → (X i).Small) (hw : Wf X n) (id : Int) (w : World) (P : ∀ i, i < n → NrAt w ao i (X i) (A i)) :
    Calls Tryz.prog 55 #[.agg #[.slice ao n cp], .int .i64 id] w fun r w' => r = .returned (errV (changeC X n id)) ∧ Below w.heap.size w w' := by
  have E1 := hide (fun u => implSceneOk_any X A ao n cp hn hs hw.id hw.par u)
  have E2 := hide (fun u => implNodeAt_any X A ao n cp hn id u)
  replace P := hide P
  clear hs hw
  obtain ⟨C, hC⟩ : ∃ C, Hid (C = errV (changeC X n id)) := ⟨_, rfl⟩
  rw [← unhide hC]
  have hC' := hide (show C = errV (if ¬ sceneOkB X n = true then 1 else if firstN X id n < 0 then 2 else 0) from unhide hC)
  clear hC
  go_enter Tryz.func55, Tryz.ntmps55
  go_upto_region 1 with fail
  have R := hide (new_row w (.cells #[.slice ao n cp] 26))
  have HB := hide (al1_below w (.cells #[.slice ao n cp] 26))
  obtain ⟨b1, hb1⟩ : ∃ z, Hid (z = w.heap.size) := ⟨_, rfl⟩
  rw [← unhide hb1] at R ⊢
  clear hb1
  generalize w.alloc (.cells #[.slice ao n cp] 26) = W at R HB ⊢
  have c0 := row1 (unhide R)
  go_wp2_with fail
  go_fit (unhide E1 _ (fun i hi => (unhide P i hi).next (unhide HB)))
  rintro r u1 ⟨rfl, hb⟩
  replace R := hide (row_next hb (unhide R))
  replace HB := hide (below_two (unhide HB) hb)
  clear hb c0 E1
  cases hok : sceneOkB X n with
  | false =>
    rw [hok, if_pos (by simp)] at hC'
    rw [errV_is (by decide)] at hC'
    clear hok
    go_wp2_with fail
    go_ret
    exact ⟨by rw [unhide hC']; rfl, unhide HB⟩
  | true =>
    rw [hok, if_neg (by simp)] at hC'
    clear hok
    have c0 := row1 (unhide R)
    go_wp2_with fail
    go_fit (unhide E2 _ (fun i hi => (unhide P i hi).next (unhide HB)))
    rintro r u2 ⟨rfl, hb⟩
    replace HB := hide (below_two (unhide HB) hb)
    clear hb c0 E2
    by_cases hf : firstN X id n < 0
    · rw [if_pos hf, errV_is (by decide)] at hC'
      generalize firstN X id n = Z at hf ⊢
      go_wp2_with fail
      go_ret
      exact ⟨by rw [unhide hC']; rfl, unhide HB⟩
    · rw [if_neg hf, errV_nil] at hC'
      generalize firstN X id n = Z at hf ⊢
      go_wp2_with fail
      go_ret
      exact ⟨by rw [unhide hC']; rfl, unhide HB⟩

set_option maxHeartbeats 8000000 in
set_option maxRecDepth 100000 in
theorem implMayCreate_any (X : Nat → Nd) (A : Nat → Na) (ao : Option Addr) (n cp : Nat) (hn : n ≤ 1048576) (hs : ∀ i, i < n → (X i).Small) (hw : Wf X n) (x : Nd) (s : Na) (hx : x.Small) (w1 : (Lit.int .i64 x.id).wf = true) (w2 : (Lit.int .i64 x.par).wf = true) (w : World) (P : ∀ i, i < n → NrAt w ao i (X i) (A i)) (H : NdIn w x s) :
    Calls Tryz.prog 42 #[.agg #[.slice ao n cp], .agg (ndC x s)] w fun r w' => r = .returned (errV (createC X n x)) ∧ Below w.heap.size w w' := by
  have E1 := hide (fun u => implSceneOk_any X A ao n cp hn hs hw.id hw.par u)
  have E2 := hide (fun u => implNodeOk_c x s hx u)
  have E3 := hide (fun u => implStandingOf_any X A ao n cp hn hw.id u)
  have E4 := hide (fun u m => implMayHold_any X A ao n m x.par w2 u)
  have E5 := hide (fun u m => implDepthOfM_any X A ao n m hw.par x.par w2 u)
  have E6 := hide implDepthOk_any
  replace P := hide P
  replace H := hide H
  have hdj := hide (show ScOk X n → depthJ X n x.par = depthI X n x.par from fun h => depthJ_is (.inr (scOk_noZero h)))
  have hnn := hide (show 0 ≤ depthI X n x.par ∧ depthI X n x.par ≤ 9 by have h1 := depth_nn (X := X) (n := n) 9 0 x.par (by omega); have h2 := depth_le (X := X) (n := n) 9 0 x.par (by omega); unfold depthI; omega)
  clear hs hw hx
  obtain ⟨C, hC⟩ : ∃ C, Hid (C = errV (createC X n x)) := ⟨_, rfl⟩
  rw [← unhide hC]
  have hC' := hide (show C = errV (if ¬ (sceneOkB X n = true ∧ nodeOkB x = true) then 1 else if 0 ≤ firstN X x.id n then 3 else if holdB X n x.par = false then 2 else if n = 8 then 4 else if 4 ≤ depthI X n x.par then 5 else 0) from unhide hC)
  clear hC
  go_enter Tryz.func42, Tryz.ntmps42
  go_upto_region 1 with fail
  have R1 := hide (al2_0 w (.cells #[.slice ao n cp] 26) (.cells (ndC x s) 41))
  have R2 := hide (al2_1 w (.cells #[.slice ao n cp] 26) (.cells (ndC x s) 41))
  have HB := hide (al2_below w (.cells #[.slice ao n cp] 26) (.cells (ndC x s) 41))
  obtain ⟨b2, hb2⟩ : ∃ b, Hid (b = w.heap.size + 1) := ⟨_, rfl⟩
  obtain ⟨b1, hb1⟩ : ∃ b, Hid (b = w.heap.size) := ⟨_, rfl⟩
  rw [← unhide hb2] at R2
  rw [← unhide hb1] at R1
  rw [← unhide hb2, ← unhide hb1]
  generalize (w.alloc (.cells #[.slice ao n cp] 26)).alloc (.cells (ndC x s) 41) = W at R1 R2 HB ⊢
  clear hb2 hb1
  have c0 := row1 (unhide R1)
  go_wp2_with fail
  go_fit (unhide E1 _ (fun i hi => (unhide P i hi).next (unhide HB)))
  rintro r u1 ⟨rfl, hb⟩
  replace R1 := hide (row_next hb (unhide R1))
  replace R2 := hide (row_next hb (unhide R2))
  replace HB := hide (below_two (unhide HB) hb)
  clear hb c0 E1
  cases hok : sceneOkB X n with
  | false =>
    rw [hok, if_pos (by simp), errV_is (by decide)] at hC'
    clear hok
    go_wp2_with fail
    go_ret
    exact ⟨by rw [unhide hC']; rfl, unhide HB⟩
  | true =>
    have hS := hide (sceneOk_iff.1 hok)
    rw [hok] at hC'
    clear hok
    go_wp2_with (refine load_own_g (by rfl) _ rfl b2 rfl x s 41 (unhide R2) ?_)
    go_fit (unhide E2 _ ((unhide H).next (unhide HB)))
    rintro r u2 ⟨rfl, hb⟩
    replace R1 := hide (row_next hb (unhide R1))
    replace R2 := hide (row_next hb (unhide R2))
    replace HB := hide (below_two (unhide HB) hb)
    clear hb E2
    cases hok : nodeOkB x with
    | false =>
      rw [hok, if_pos (by simp), errV_is (by decide)] at hC'
      clear hok
      go_wp2_with fail
      go_ret
      exact ⟨by rw [unhide hC']; rfl, unhide HB⟩
    | true =>
      rw [hok, if_neg (by simp)] at hC'
      clear hok
      have c0 := row1 (unhide R1)
      go_wp2_with fail
      go_fit (unhide E3 _ (fun i hi => (unhide P i hi).next (unhide HB)))
      rintro r u3 ⟨m, rfl, S, _, hb⟩
      replace R1 := hide (row_next hb (unhide R1))
      replace R2 := hide (row_next hb (unhide R2))
      replace HB := hide (below_two (unhide HB) hb)
      have F4 := hide (unhide E4 u3 m S (fun i hi => (unhide P i hi).next (unhide HB)))
      have F5 := hide (unhide E5 u3 m S (fun i hi => (unhide P i hi).next (unhide HB)))
      have hl := S.look x.id w1
      clear hb c0 E3 E4 E5 S
      obtain ⟨d0, d1, d2⟩ := headsC (unhide R2)
      by_cases hf : 0 ≤ firstN X x.id n
      · rw [if_pos hf, errV_is (by decide)] at hC'
        have hl2 : ∃ q, stP ao X n x.id = .pointer (some q) := by
          rcases first_is (X := X) (id := x.id) n with ⟨e, _⟩ | ⟨j, hj, e, _, _⟩
          · omega
          · obtain ⟨b, o, hao, _⟩ := unhide P j hj
            rw [hao, stP_at e]
            exact ⟨_, rfl⟩
        obtain ⟨q, hq⟩ := hl2
        rw [hq] at hl
        clear hf hq
        go_wp2_with fail
        go_ret
        exact ⟨by rw [unhide hC']; rfl, unhide HB⟩
      · rw [if_neg hf] at hC'
        rw [stP_none (by omega)] at hl
        clear hf
        go_wp2_with fail
        go_fit (unhide F4)
        rintro r u4 ⟨rfl, hu⟩
        rw [hu]
        clear hu u4 F4
        cases hh : holdB X n x.par with
        | false =>
          rw [hh, if_pos rfl, errV_is (by decide)] at hC'
          clear hh
          go_wp2_with fail
          go_ret
          exact ⟨by rw [unhide hC']; rfl, unhide HB⟩
        | true =>
          rw [hh, if_neg (by decide)] at hC'
          clear hh
          have c0 := row1 (unhide R1)
          by_cases h8 : n = 8
          · rw [if_pos h8, errV_is (by decide)] at hC'
            subst h8
            go_wp2_with fail
            go_ret
            exact ⟨by rw [unhide hC']; rfl, unhide HB⟩
          · rw [if_neg h8] at hC'
            have h8' : ¬ (8 : Int) ≤ (n : Int) := by have := (unhide hS).1; omega
            go_upto_region 10 with fail
            have hjS := unhide hdj (unhide hS)
            obtain ⟨Z, hZ⟩ : ∃ Z, Hid (Z = depthI X n x.par) := ⟨_, rfl⟩
            rw [← unhide hZ] at hjS hC' hnn
            rw [hjS] at F5
            have hwr : IntKind.i64.wrap (Z + 1) = Z + 1 := IntWalk.i64_in _ (by have := unhide hnn; omega)
            have E7 := hide (show ∀ _ : Nat, Calls Tryz.prog 98 #[.map (some m), .int .i64 x.par] u3 fun r w' => r = .returned (.int .i64 (Z + 1)) ∧ w' = u3 from fun _ => by
              go_enter Tryz.func98, Tryz.ntmps98
              go_wp2_with fail
              go_fit (unhide F5)
              rintro r u ⟨rfl, hu⟩
              rw [hu]
              go_wp2_with fail
              go_ret
              exact ⟨rfl, rfl⟩)
            clear hjS hZ F5
            obtain ⟨d0, d1, d2⟩ := headsC (unhide R2)
            go_wp2_with fail
            go_fit (unhide E7 0)
            rintro r u5 ⟨rfl, hu⟩
            rw [hu]
            clear hu u5 E7
            have E8 := hide (unhide E6 (Z + 1) u3)
            by_cases hz : 4 ≤ Z
            · rw [if_pos hz, errV_is (by decide)] at hC'
              rw [show inB (Z + 1) 1 4 = false by unfold inB; simp; omega] at E8
              go_wp2_with fail
              go_fit (unhide E8)
              rintro r u6 ⟨rfl, hu⟩
              rw [hu]
              go_wp2_with fail
              go_ret
              exact ⟨by rw [unhide hC']; rfl, unhide HB⟩
            · rw [if_neg hz, errV_nil] at hC'
              rw [inB_true.2 (by have := unhide hnn; omega)] at E8
              go_wp2_with fail
              go_fit (unhide E8)
              rintro r u6 ⟨rfl, hu⟩
              rw [hu]
              go_wp2_with fail
              go_ret
              exact ⟨by rw [unhide hC']; rfl, unhide HB⟩

theorem ids_len {w w' : World} {r : Ending} {L : List Int} (h : IdsRes w r w' L) : ∃ p cp, r = .returned (.slice p L.length cp) ∧ Below w.heap.size w w' := let ⟨p, cp, h1, _, h3⟩ := h; ⟨p, cp, h1, h3⟩

set_option maxHeartbeats 8000000 in
set_option maxRecDepth 100000 in
theorem implMaySet_any (X : Nat → Nd) (A : Nat → Na) (ao : Option Addr) (n cp : Nat) (hn : n ≤ 1048576) (hs : ∀ i, i < n → (X i).Small) (hw : Wf X n) (x : Nd) (s : Na) (hx : x.Small) (w : World) (P : ∀ i, i < n → NrAt w ao i (X i) (A i)) (H : NdIn w x s) :
    Calls Tryz.prog 72 #[.agg #[.slice ao n cp], .agg (ndC x s)] w fun r w' => r = .returned (errV (setC16 X n x)) ∧ Below w.heap.size w w' := by
  have E1 := hide (fun u => implNodeOk_c x s hx u)
  have E2 := hide (fun u => implMayChange_any X A ao n cp hn hs hw x.id u)
  have E3 := hide (fun u P => (implKidsOf_any X A ao n cp hn x.id u P).mono fun _ _ h => ids_len h)
  have hL := hide (show (kidsL X n x.id).length ≤ n from pick_le X _ n)
  replace P := hide P
  replace H := hide H
  clear hs hw hx
  obtain ⟨C, hC⟩ : ∃ C, Hid (C = errV (setC16 X n x)) := ⟨_, rfl⟩
  rw [← unhide hC]
  have hC' := hide (show C = errV (if ¬ (sceneOkB X n = true ∧ nodeOkB x = true) then 1 else if firstN X x.id n < 0 then 2 else if x.gr = false ∧ 0 < (kidsL X n x.id).length then 1 else 0) from unhide hC)
  clear hC
  go_enter Tryz.func72, Tryz.ntmps72
  go_upto_region 1 with fail
  have R1 := hide (al2_0 w (.cells #[.slice ao n cp] 26) (.cells (ndC x s) 41))
  have R2 := hide (al2_1 w (.cells #[.slice ao n cp] 26) (.cells (ndC x s) 41))
  have HB := hide (al2_below w (.cells #[.slice ao n cp] 26) (.cells (ndC x s) 41))
  obtain ⟨b2, hb2⟩ : ∃ b, Hid (b = w.heap.size + 1) := ⟨_, rfl⟩
  obtain ⟨b1, hb1⟩ : ∃ b, Hid (b = w.heap.size) := ⟨_, rfl⟩
  rw [← unhide hb2] at R2
  rw [← unhide hb1] at R1
  rw [← unhide hb2, ← unhide hb1]
  generalize (w.alloc (.cells #[.slice ao n cp] 26)).alloc (.cells (ndC x s) 41) = W at R1 R2 HB ⊢
  clear hb2 hb1
  go_wp2_with (refine load_own rfl _ rfl b2 rfl x s 41 (unhide R2) ?_)
  go_fit (unhide E1 _ ((unhide H).next (unhide HB)))
  rintro r u1 ⟨rfl, hb⟩
  replace R1 := hide (row_next hb (unhide R1))
  replace R2 := hide (row_next hb (unhide R2))
  replace HB := hide (below_two (unhide HB) hb)
  clear hb E1
  cases hok : nodeOkB x with
  | false =>
    rw [hok, if_pos (by simp), errV_is (by decide)] at hC'
    clear hok
    go_wp2_with fail
    go_ret
    exact ⟨by rw [unhide hC']; rfl, unhide HB⟩
  | true =>
    rw [hok] at hC'
    clear hok
    have c0 := row1 (unhide R1)
    obtain ⟨d0, d1, d2⟩ := headsC (unhide R2)
    have F2 := hide (unhide E2 _ (fun i hi => (unhide P i hi).next (unhide HB)))
    go_wp2_with fail
    go_fit (unhide F2)
    rintro r u2 ⟨rfl, hb⟩
    replace R1 := hide (row_next hb (unhide R1))
    replace R2 := hide (row_next hb (unhide R2))
    replace HB := hide (below_two (unhide HB) hb)
    clear hb c0 d0 d1 d2 E2 F2
    cases hok : sceneOkB X n with
    | false =>
      rw [hok, if_pos (by simp), errV_is (by decide)] at hC'
      rw [show changeC X n x.id = 1 from if_pos (by rw [hok]; simp), errV_is (by decide)]
      clear hok
      go_wp2_with fail
      go_ret
      exact ⟨by rw [unhide hC']; rfl, unhide HB⟩
    | true =>
      rw [hok, if_neg (by simp)] at hC'
      rw [show changeC X n x.id = (if firstN X x.id n < 0 then 2 else 0) from if_neg (by rw [hok]; simp)]
      clear hok
      by_cases hf : firstN X x.id n < 0
      · rw [if_pos hf, errV_is (by decide)] at hC'
        rw [if_pos hf, errV_is (by decide)]
        clear hf
        go_wp2_with fail
        go_ret
        exact ⟨by rw [unhide hC']; rfl, unhide HB⟩
      · rw [if_neg hf] at hC'
        rw [if_neg hf, errV_nil]
        clear hf
        have c0 := row1 (unhide R1)
        obtain ⟨d0, d1, d2⟩ := headsC (unhide R2)
        cases hg : x.gr with
        | true =>
          rw [hg] at d2
          rw [hg, if_neg (by simp), errV_nil] at hC'
          go_wp2_with fail
          go_ret
          exact ⟨by rw [unhide hC']; rfl, unhide HB⟩
        | false =>
          rw [hg] at d2
          rw [hg] at hC'
          have F3 := hide (unhide E3 _ (fun i hi => (unhide P i hi).next (unhide HB)))
          go_wp2_with fail
          go_fit (unhide F3)
          rintro r u3 ⟨p, cp', rfl, hb⟩
          replace HB := hide (below_two (unhide HB) hb)
          clear hb F3 c0 d0 d1 d2 hg
          by_cases h0 : 0 < (kidsL X n x.id).length
          · rw [if_pos (by simp [h0]), errV_is (by decide)] at hC'
            have h0' : (0 : Int) < ((kidsL X n x.id).length : Int) := by omega
            go_wp2_with fail
            go_ret
            exact ⟨by rw [unhide hC']; rfl, unhide HB⟩
          · rw [if_neg (fun e => h0 e.2), errV_nil] at hC'
            have h0' : ¬ (0 : Int) < ((kidsL X n x.id).length : Int) := by omega
            go_wp2_with fail
            go_ret
            exact ⟨by rw [unhide hC']; rfl, unhide HB⟩
end Go.Proofs.YtmafopckplpajaaGreatDoor
