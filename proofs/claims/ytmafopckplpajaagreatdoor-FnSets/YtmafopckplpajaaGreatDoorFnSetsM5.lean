/-
  SceneI · SceneJ: texts of one claim, in one.
-/
import Derived.Test.YtmafopckplpajaaGreatDoorFnSetsM4

/-
  The program's scenes: NodeAt, KidsOf, standingOf, mayHold, depthOf, depthOk.
-/
namespace Go.Proofs.YtmafopckplpajaaGreatDoor
open Go.RowKit
set_option linter.unusedVariables false

theorem implNodeAt1_any (x : Nd) (s : Na) (q : Nat) (id : Int) (w : World) (h : w.cell? ⟨q, 0, none⟩ = some (.int .i64 id)) :
    Calls Tryz.prog 64 #[.agg (ndC x s), .pointer (some ⟨q, 0, none⟩)] w fun r w' => r = .returned (.bool (x.id == id)) ∧ Below w.heap.size w w' := by
  go_enter Tryz.func64, Tryz.ntmps64
  go_upto_region 1 with fail
  have R := hide (new_row w (.cells (ndC x s) 41))
  have HB := hide (al1_below w (.cells (ndC x s) 41))
  have c1 := kc (unhide HB) h
  clear h
  generalize w.alloc (.cells (ndC x s) 41) = W at R HB c1 ⊢
  obtain ⟨b1, hb1⟩ : ∃ z, Hid (z = w.heap.size) := ⟨_, rfl⟩
  rw [← unhide hb1] at R ⊢
  clear hb1
  obtain ⟨c0, _, _⟩ := headsC (unhide R)
  go_wp2_with fail
  go_ret
  exact ⟨rfl, unhide HB⟩

set_option maxHeartbeats 4000000 in
set_option maxRecDepth 100000 in
theorem implIndexFunc_any (X : Nat → Nd) (A : Nat → Na) (ao : Option Addr) (n cp : Nat) (hn : n ≤ 1048576) (q : Nat) (id : Int) (w : World) (h : w.cell? ⟨q, 0, none⟩ = some (.int .i64 id)) (P : ∀ i, i < n → NrAt w ao i (X i) (A i)) :
    Calls Tryz.prog 63 #[.slice ao n cp, .func (.func 64) #[] #[.pointer (some ⟨q, 0, none⟩)]] w fun r w' => r = .returned (.int .i64 (firstN X id n)) ∧ Below w.heap.size w w' := by
  have hno : Hid ((∀ j, j < n → (X j).id ≠ id) → firstN X id n = -1) := first_none
  have hyes : Hid (∀ k, (∀ j, j < k → (X j).id ≠ id) → (X k).id = id → k < n → firstN X id n = (k : Int)) := fun k h1 h2 h3 => first_at h1 h2 h3
  generalize firstN X id n = Z at hno hyes ⊢
  replace P := hide P
  replace h := hide h
  go_enter Tryz.func63, Tryz.ntmps63
  go_upto_region 2 with fail
  go_loopw [8] (fun i u => ∃ k : Nat, k ≤ n ∧ i = .int .i64 (k : Int) ∧ Hid (Below w.heap.size w u) ∧ Hid (∀ j, j < k → (X j).id ≠ id)) (fun i _ => n - (intOf i).toNat)
  case atStart => exact ⟨0, Nat.zero_le _, rfl, Below.refl _ _, fun j hj => absurd hj (by omega)⟩
  case round =>
    obtain ⟨k, hk, rfl, HB, HK⟩ := hrel
    by_cases hkn : k < n
    · have hki : (k : Int) < (n : Int) := by omega
      have HP := hide ((unhide P k hkn).next (unhide HB))
      have E := hide (fun u (hu : Below wr.heap.size wr u) => implNodeAt1_any (X k) (A k) q id u (kc hu (kc (unhide HB) (unhide h))))
      have hyk := hide (unhide hyes k (unhide HK))
      have hmore : Hid ((X k).id ≠ id → ∀ j, j < k + 1 → (X j).id ≠ id) := fun hx j hj => by
        by_cases e : j = k
        · subst e; exact hx
        · exact unhide HK j (by omega)
      obtain ⟨xx, hxx⟩ : ∃ z, Hid (X k = z) := ⟨_, rfl⟩
      obtain ⟨ss, hss⟩ : ∃ z, Hid (A k = z) := ⟨_, rfl⟩
      rw [unhide hxx] at HP E hyk hmore
      rw [unhide hss] at HP E
      obtain ⟨b, o, hao, hrg⟩ := (unhide HP).range
      replace hrg := hide hrg
      subst hao
      go_wp2_with (refine load_node rfl _ rfl b (o + k * 31) rfl xx ss (unhide hrg) ?_)
      go_fit (unhide E _ (Below.refl _ _))
      rintro r u1 ⟨rfl, hb⟩
      replace HB := hide (below_two (unhide HB) hb)
      clear hb E hrg HP
      by_cases hx : xx.id = id
      · have hq : (xx.id == id) = true := beq_iff_eq.2 hx
        have hX := hide (unhide hyk hx hkn)
        clear hx
        go_wp2_with fail
        go_ret
        exact ⟨by rw [unhide hX]; rfl, unhide HB⟩
      · have hq : (xx.id == id) = false := beq_eq_false_iff_ne.2 hx
        have HK2 := hide (unhide hmore hx)
        clear hx
        go_wp2_with fail
        go_roundw
        case rel => exact ⟨k + 1, by omega, by go_num, HB, HK2⟩
        case measure => simp [intOf]; omega
    · have hke : k = n := by omega
      subst hke
      have hki : ¬ (k : Int) < (k : Int) := by omega
      have hX := hide (unhide hno (unhide HK))
      go_wp2_with fail
      go_ret
      exact ⟨by rw [unhide hX]; rfl, unhide HB⟩

set_option maxHeartbeats 4000000 in
set_option maxRecDepth 100000 in
theorem implNodeAt_any (X : Nat → Nd) (A : Nat → Na) (ao : Option Addr) (n cp : Nat) (hn : n ≤ 1048576) (id : Int) (w : World) (P : ∀ i, i < n → NrAt w ao i (X i) (A i)) :
    Calls Tryz.prog 19 #[.agg #[.slice ao n cp], .int .i64 id] w fun r w' => r = .returned (.int .i64 (firstN X id n)) ∧ Below w.heap.size w w' := by
  have E := hide (fun u q (h : u.cell? ⟨q, 0, none⟩ = some (.int .i64 id)) => implIndexFunc_any X A ao n cp hn q id u h)
  generalize firstN X id n = Z at E ⊢
  replace P := hide P
  go_enter Tryz.func19, Tryz.ntmps19
  go_upto_region 1 with fail
  have R := hide (old_row (.cells #[.int .i64 id] 3) (new_row w (.cells #[.slice ao n cp] 26)))
  have R2 := hide (new_row (w.alloc (.cells #[.slice ao n cp] 26)) (.cells #[.int .i64 id] 3))
  have HB := hide (al2_below w (.cells #[.slice ao n cp] 26) (.cells #[.int .i64 id] 3))
  rw [show (w.alloc (.cells #[.slice ao n cp] 26)).heap.size = w.heap.size + 1 from al1_size _ _] at R2
  generalize (w.alloc (.cells #[.slice ao n cp] 26)).alloc (.cells #[.int .i64 id] 3) = W at R R2 HB ⊢
  obtain ⟨b1, hb1⟩ : ∃ z, Hid (z = w.heap.size) := ⟨_, rfl⟩
  rw [← unhide hb1] at R R2 ⊢
  clear hb1
  have c0 := row1 (unhide R)
  have c1 := row1 (unhide R2)
  have E2 := hide (unhide E W (b1 + 1) c1 (fun i hi => (unhide P i hi).next (unhide HB)))
  go_wp2_with fail
  go_fit (unhide E2)
  rintro r u1 ⟨rfl, hb⟩
  replace HB := hide (below_two (unhide HB) hb)
  go_wp2_with fail
  go_ret
  exact ⟨rfl, unhide HB⟩

set_option maxHeartbeats 4000000 in
set_option maxRecDepth 100000 in
theorem implKidsOf_any (X : Nat → Nd) (A : Nat → Na) (ao : Option Addr) (n cp : Nat) (hn : n ≤ 1048576) (id : Int) (w : World) (P : ∀ i, i < n → NrAt w ao i (X i) (A i)) :
    Calls Tryz.prog 129 #[.agg #[.slice ao n cp], .int .i64 id] w fun r w' => IdsRes w r w' (kidsL X n id) := by
  obtain ⟨i0, hi, hz0, hz1, hz2⟩ := info_parts infoInt15
  obtain ⟨q, hq⟩ : ∃ q : Nat → Bool, Hid (q = fun k => decide ((X k).par = id)) := ⟨_, rfl⟩
  have hqk : Hid (∀ k, q k = decide ((X k).par = id)) := fun k => by rw [unhide hq]
  unfold kidsL IdsRes
  rw [← unhide hq]
  clear hq
  replace P := hide P
  go_enter Tryz.func129, Tryz.ntmps129
  go_upto_region 1 with fail
  have R := hide (new_row w (.cells #[.slice ao n cp] 26))
  have HB := hide (al1_below w (.cells #[.slice ao n cp] 26))
  obtain ⟨b1, hb1⟩ : ∃ z, Hid (z = w.heap.size) := ⟨_, rfl⟩
  rw [← unhide hb1] at R ⊢
  clear hb1
  generalize w.alloc (.cells #[.slice ao n cp] 26) = W at R HB ⊢
  have c0 := row1 (row_next (al1_below W (.cells #[] 3)) (unhide R))
  go_upto_region 3 with fail
  clear c0
  go_loopw [5, 12] (fun v i u => ∃ (k : Nat) (p : Option Addr) (cap : Nat), k ≤ n ∧ i = .int .i64 (k : Int) ∧ v = .slice p (pickIds X q k).length cap ∧ Hid (u.ownsRow W.heap.size 3 1 (.slice p (pickIds X q k).length cap) (pickIds X q k).length ((pickIds X q k).map Zv)) ∧ Hid (Below W.heap.size W u)) (fun _ i _ => n - (intOf i).toNat)
  case atStart => exact ⟨0, some ⟨W.heap.size, 0, none⟩, 0, Nat.zero_le _, rfl, rfl, World.ownsRow_lit W #[] 0 (Nat.le_refl _) (by decide) rfl, al1_below _ _⟩
  case round =>
    obtain ⟨k, p, cap, hk, rfl, rfl, O, D⟩ := hrel
    have hlen := pick_le X q k
    by_cases hkn : k < n
    · have hki : (k : Int) < (n : Int) := by omega
      have HP := hide ((unhide P k hkn).next (below_two (unhide HB) (unhide D)))
      have hqy := hide (fun (hx : (X k).par = id) => show pickIds X q (k + 1) = pickIds X q k ++ [(X k).id] by rw [pickIds, if_pos (by rw [unhide hqk]; exact decide_eq_true hx)])
      have hqn := hide (fun (hx : ¬ (X k).par = id) => show pickIds X q (k + 1) = pickIds X q k by rw [pickIds, if_neg (by rw [unhide hqk, decide_eq_false hx]; exact Bool.false_ne_true)])
      obtain ⟨xx, hxx⟩ : ∃ z, Hid (X k = z) := ⟨_, rfl⟩
      obtain ⟨ss, hss⟩ : ∃ z, Hid (A k = z) := ⟨_, rfl⟩
      rw [unhide hxx, unhide hss] at HP
      rw [unhide hxx] at hqy hqn
      obtain ⟨b, o, hao, hrg⟩ := (unhide HP).range
      replace hrg := hide hrg
      subst hao
      go_upto_region 5 with (first | refine load_node rfl _ rfl b (o + k * 31) rfl xx ss (unhide hrg) ?_ | refine store_new rfl _ _ rfl _ xx ss rfl rfl rfl ?_)
      have R4 := hide (new_row wr (.cells (ndC xx ss) 41))
      replace O := hide ((unhide O).alloc (.cells (ndC xx ss) 41))
      replace D := hide (below_two (unhide D) (al1_below wr (.cells (ndC xx ss) 41)))
      clear hrg HP
      generalize hW4 : wr.alloc (.cells (ndC xx ss) 41) = W4 at O D R4 ⊢
      clear hW4
      generalize wr.heap.size = b4 at R4 ⊢
      obtain ⟨c0, c1, _⟩ := headsC (unhide R4)
      by_cases hx : xx.par = id
      · have hqq : (xx.par == id) = true := beq_iff_eq.2 hx
        have hqt := hide (unhide hqy hx)
        clear hx
        generalize pickIds X q k = L at O hlen hqt ⊢
        go_wp2_with (at_builtin; go_must (refine wpList_append_vals W4 rfl _ _ 30 3 rfl W.heap.size i0 (.int .i64 0) 8 Tryz.underlying30 hi hz0 hz1 hz2 rfl _ (L.map Zv) (by rfl) (own_ids (unhide O)) _ (by intro u hu; simp at hu; subst hu; rfl) 1 1 rfl (by rfl) (by unfold maxLen; simp; omega) (by simp; omega) W W.heap.size (Nat.le_refl _) (unhide D).size (unhide D) ?_); intro v' w1 hown' hnx'; replace hown' := ids_snoc hown'; obtain ⟨p', cap', rfl⟩ := own_form hown'; replace hown' := hide hown'; replace hnx' := hide hnx'; refine Hid.out ?_)
        unfold Hid
        go_wp2_with fail
        go_roundw
        case rel => exact ⟨k + 1, p', cap', by omega, by go_num, by rw [unhide hqt, List.length_append]; rfl, by rw [unhide hqt]; exact unhide hown', hnx'⟩
        case measure => simp [intOf]; omega
      · have hqq : (xx.par == id) = false := beq_eq_false_iff_ne.2 hx
        have hqt := hide (unhide hqn hx)
        clear hx
        go_wp2_with fail
        go_roundw
        case rel => exact ⟨k + 1, p, cap, by omega, by go_num, by rw [unhide hqt], by rw [unhide hqt]; exact unhide O, D⟩
        case measure => simp [intOf]; omega
    · have hke : k = n := by omega
      subst hke
      have hki : ¬ (k : Int) < (k : Int) := by omega
      go_wp2_with fail
      go_ret
      exact ⟨p, cap, rfl, own_low (unhide O) (unhide HB).size, below_two (unhide HB) (unhide D)⟩

theorem Stand.put_at {w : World} {m n : Nat} {b o : Nat} {X : Nat → Nd} (h : Stand w m (some ⟨b, o, none⟩) X n) (hn : n ≤ 1048576) (hf : firstN X (X n).id n < 0) (hz : (Lit.int .i64 (X n).id).wf = true) :
    ∃ w', (Instr.mapUpdate 90 (.map (some m)) (.int .i64 (X n).id) (.pointer (some ⟨b, o + n * 31, none⟩))).run Tryz.prog w = .ok () w' ∧ Stand w' m (some ⟨b, o, none⟩) X (n + 1) ∧ w.grownBy w' (some m) := h.put hn hf hz

set_option maxHeartbeats 4000000 in
set_option maxRecDepth 100000 in
theorem implStandingOf_any (X : Nat → Nd) (A : Nat → Na) (ao : Option Addr) (n cp : Nat) (hn : n ≤ 1048576) (hf : ∀ i, i < n → (Lit.int .i64 (X i).id).wf = true) (w : World) (P : ∀ i, i < n → NrAt w ao i (X i) (A i)) :
    Calls Tryz.prog 50 #[.agg #[.slice ao n cp]] w fun r w' => ∃ m, r = .returned (.map (some m)) ∧ Stand w' m ao X n ∧ w.heap.size ≤ m ∧ Below w.heap.size w w' := by
  have hmm := @run_makeMap Tryz.prog
  replace P := hide P
  replace hf := hide hf
  go_enter Tryz.func50, Tryz.ntmps50
  go_upto_region 1 with fail
  have R := hide (new_row w (.cells #[.slice ao n cp] 26))
  have HB := hide (al1_below w (.cells #[.slice ao n cp] 26))
  have hm := hide (show w.heap.size < (w.alloc (.cells #[.slice ao n cp] 26)).heap.size by rw [al1_size]; omega)
  generalize w.alloc (.cells #[.slice ao n cp] 26) = W at R HB hm ⊢
  obtain ⟨b1, hb1⟩ : ∃ z, Hid (z = w.heap.size) := ⟨_, rfl⟩
  rw [← unhide hb1] at R hm ⊢
  go_upto_region 2 with fail
  have S := hide (Stand.made W ao X)
  replace R := hide (row_next (al1_below W (.map #[] 0)) (unhide R))
  replace HB := hide (below_two (unhide HB) (al1_below W (.map #[] 0)))
  generalize W.alloc (.map #[] 0) = W2 at R HB S ⊢
  generalize W.heap.size = m at S hm ⊢
  clear hmm
  have c0 := row1 (unhide R)
  go_upto_region 3 with fail
  clear c0
  go_loopw [10] (fun i u => ∃ k : Nat, k ≤ n ∧ i = .int .i64 (k : Int) ∧ Hid (Stand u m ao X k) ∧ Hid (u.heap[b1]? = some (.cells #[.slice ao n cp] 26 (0, 0))) ∧ Hid (Below w.heap.size w u)) (fun i _ => n - (intOf i).toNat)
  case atStart => exact ⟨0, Nat.zero_le _, rfl, S, R, HB⟩
  case round =>
    clear S R HB
    obtain ⟨k, hk, rfl, S, R, HB⟩ := hrel
    have c0 := row1 (unhide R)
    by_cases hkn : k < n
    · have hki : (k : Int) < (n : Int) := by omega
      have hfk := hide (unhide hf k hkn)
      obtain ⟨b, o, hao, g0, g1, g2⟩ := ((unhide P k hkn).next (unhide HB)).heads
      subst hao
      have hl := (unhide S).look (X k).id (unhide hfk)
      by_cases hx : firstN X (X k).id k < 0
      · rw [stP_none hx] at hl
        obtain ⟨w1, hrun, S1, hg⟩ := (unhide S).put_at (by omega) hx (unhide hfk)
        have S1 := hide S1
        have R1 := hide (show w1.heap[b1]? = some (.cells #[.slice (some ⟨b, o, none⟩) n cp] 26 (0, 0)) from (hg.block b1 (heap_lt (unhide R)) (by have := unhide hm; intro e; cases e; omega)).trans (unhide R))
        have HB1 := hide (show Below w.heap.size w w1 from (unhide HB).grown hg (unhide HB).size (fun j hj => by cases hj; have := unhide hm; have := unhide hb1; omega))
        clear hx hg hfk
        go_wp2_with fail
        go_roundw
        case rel => exact ⟨k + 1, by omega, by go_num, S1, R1, HB1⟩
        case measure => simp [intOf]; omega
      · obtain ⟨j, hj, hfj⟩ : ∃ j, j < k ∧ firstN X (X k).id k = (j : Int) := by
          rcases first_is (X := X) (id := (X k).id) k with ⟨e, _⟩ | ⟨j, hj, e, _⟩
          · omega
          · exact ⟨j, hj, e⟩
        rw [stP_at hfj] at hl
        have S1 := hide ((unhide S).skip hx)
        clear hx hfj hfk
        go_wp2_with fail
        go_roundw
        case rel => exact ⟨k + 1, by omega, by go_num, S1, R, HB⟩
        case measure => simp [intOf]; omega
    · have hke : k = n := by omega
      subst hke
      have hki : ¬ (k : Int) < (k : Int) := by omega
      go_wp2_with fail
      go_ret
      exact ⟨m, rfl, unhide S, by have := unhide hm; have := unhide hb1; omega, unhide HB⟩

def holdB (X : Nat → Nd) (n : Nat) (p : Int) : Bool := decide (p = 0) || (decide (0 ≤ firstN X p n) && (X (firstN X p n).toNat).gr)
set_option maxHeartbeats 4000000 in
set_option maxRecDepth 100000 in
theorem implMayHold_any (X : Nat → Nd) (A : Nat → Na) (ao : Option Addr) (n m : Nat) (p : Int) (hp : (Lit.int .i64 p).wf = true) (w : World) (S : Stand w m ao X n) (P : ∀ i, i < n → NrAt w ao i (X i) (A i)) :
    Calls Tryz.prog 52 #[.map (some m), .int .i64 p] w fun r w' => r = .returned (.bool (holdB X n p)) ∧ w' = w := by
  have hT : Hid (holdB X n p = (decide (p = 0) || (decide (0 ≤ firstN X p n) && (X (firstN X p n).toNat).gr))) := rfl
  generalize holdB X n p = T at hT ⊢
  have hl := S.look p hp
  replace P := hide P
  by_cases h0 : p = 0
  · have hq : (p == 0) = true := beq_iff_eq.2 h0
    have hX := hide (show true = T by rw [unhide hT, decide_eq_true h0]; rfl)
    clear h0 hl
    go_enter Tryz.func52, Tryz.ntmps52
    go_wp2_with fail
    go_ret
    exact ⟨ret_bool (unhide hX), rfl⟩
  · have hq : (p == 0) = false := beq_eq_false_iff_ne.2 h0
    rcases first_is (X := X) (id := p) n with ⟨e, _⟩ | ⟨j, hj, e, _, _⟩
    · rw [stP_none (by omega)] at hl
      have hX := hide (show false = T by rw [unhide hT, decide_eq_false h0, decide_eq_false (by omega)]; rfl)
      clear h0 e
      go_enter Tryz.func52, Tryz.ntmps52
      go_wp2_with fail
      go_ret
      exact ⟨ret_bool (unhide hX), rfl⟩
    · obtain ⟨b, o, hao, g0, g1, g2⟩ := (unhide P j hj).heads
      subst hao
      rw [stP_at e] at hl
      have hX := hide (show (X j).gr = T by rw [unhide hT, decide_eq_false h0, decide_eq_true (by omega), e]; rfl)
      clear h0 e
      go_enter Tryz.func52, Tryz.ntmps52
      go_wp2_with fail
      go_ret
      exact ⟨ret_bool (unhide hX), rfl⟩

theorem implDepthOk_any (x : Int) (w : World) :
    Calls Tryz.prog 53 #[.int .i64 x] w fun e w' => e = .returned (.bool (inB x 1 4)) ∧ w' = w := by
  by_cases h1 : 1 ≤ x
  · by_cases h2 : x ≤ 4
    · have H : Hid (true = inB x 1 4) := (inB_true.2 ⟨h1, h2⟩).symm
      go_enter Tryz.func53, Tryz.ntmps53
      go_wp2_with fail
      go_ret
      exact ⟨ret_bool (unhide H), rfl⟩
    · have H : Hid (false = inB x 1 4) := by unfold Hid inB; simp [h1, h2]
      go_enter Tryz.func53, Tryz.ntmps53
      go_wp2_with fail
      go_ret
      exact ⟨ret_bool (unhide H), rfl⟩
  · have H : Hid (false = inB x 1 4) := by unfold Hid inB; simp [h1]
    go_enter Tryz.func53, Tryz.ntmps53
    go_wp2_with fail
    go_ret
    exact ⟨ret_bool (unhide H), rfl⟩

set_option maxHeartbeats 4000000 in
set_option maxRecDepth 100000 in
theorem implDepthOfM_any (X : Nat → Nd) (A : Nat → Na) (ao : Option Addr) (n m : Nat) (hf : ∀ i, i < n → (Lit.int .i64 (X i).par).wf = true) (id : Int) (hid : (Lit.int .i64 id).wf = true) (w : World) (S : Stand w m ao X n) (P : ∀ i, i < n → NrAt w ao i (X i) (A i)) :
    Calls Tryz.prog 54 #[.map (some m), .int .i64 id] w fun r w' => r = .returned (.int .i64 (depthJ X n id)) ∧ w' = w := by
  have hZ : Hid (depthM X n 8 1 id = depthJ X n id) := rfl
  generalize depthJ X n id = Z at hZ ⊢
  replace P := hide P
  replace hf := hide hf
  replace S := hide S
  go_enter Tryz.func54, Tryz.ntmps54
  go_upto_region 2 with fail
  go_loopw [5, 1] (fun i d u => ∃ (k fuel : Nat) (z : Int), k + fuel = 9 ∧ i = .int .i64 (k : Int) ∧ 1 ≤ k ∧ d = .int .i64 z ∧ Hid ((Lit.int .i64 z).wf = true) ∧ Hid (depthM X n fuel (k : Int) z = Z) ∧ u = w) (fun i _ _ => 9 - (intOf i).toNat)
  case atStart => exact ⟨1, 8, id, rfl, rfl, Nat.le_refl _, rfl, hid, hZ, rfl⟩
  case round =>
    clear hZ hid
    obtain ⟨k, fuel, z, hfu, rfl, hk1, rfl, hzw, hZ, rfl⟩ := hrel
    cases fuel with
    | zero =>
      have hki : ¬ (k : Int) ≤ 8 := by omega
      go_wp2_with fail
      go_ret
      exact ⟨by rw [← unhide hZ]; rfl, rfl⟩
    | succ fuel =>
      have hki : (k : Int) ≤ 8 := by omega
      have hk8 : k ≤ 8 := by omega
      have hl := (unhide S).look z (unhide hzw)
      rcases first_is (X := X) (id := z) n with ⟨e, _⟩ | ⟨j, hj, e, _, _⟩
      · rw [stP_none (by omega)] at hl
        have hX := hide (show 0 = Z by rw [← unhide hZ, depthM_no (by omega)])
        clear e
        go_wp2_with fail
        go_ret
        exact ⟨by rw [← unhide hX]; rfl, rfl⟩
      · obtain ⟨b, o, hao, g0, g1, g2⟩ := (unhide P j hj).heads
        subst hao
        rw [stP_at e] at hl
        by_cases h0 : (X j).par = 0
        · have hq : ((X j).par == 0) = true := beq_iff_eq.2 h0
          have hX := hide (show (k : Int) = Z by rw [← unhide hZ, depthM_end e h0])
          clear e h0
          go_wp2_with fail
          go_ret
          exact ⟨by rw [← unhide hX]; rfl, rfl⟩
        · have hq : ((X j).par == 0) = false := beq_eq_false_iff_ne.2 h0
          have hX := hide (show depthM X n fuel ((k : Int) + 1) (X j).par = Z by rw [← unhide hZ, depthM_up e h0])
          have hzw2 := hide (unhide hf j hj)
          clear e h0
          go_wp2_with fail
          go_roundw
          case rel => exact ⟨k + 1, fuel, _, by omega, by go_num, by omega, rfl, hzw2, hX, by trivial⟩
          case measure => simp [intOf]; omega
end Go.Proofs.YtmafopckplpajaaGreatDoor

/-
  The program's SceneOk.
-/
namespace Go.Proofs.YtmafopckplpajaaGreatDoor
open Go.RowKit
set_option linter.unusedVariables false

theorem implNodeOk_c (x : Nd) (s : Na) (hs : x.Small) (w : World) (h : NdIn w x s) :
    Calls Tryz.prog 51 #[.agg (ndC x s)] w fun r w' => r = .returned (.bool (nodeOkB x)) ∧ Below w.heap.size w w' := implNodeOk_any x s hs w h
theorem okAt_hold {X : Nat → Nd} {n k : Nat} (hf : firstN X (X k).id n = (k : Int)) : okAt X n k = (nodeOkB (X k) && (holdB X n (X k).par && inB (depthJ X n (X k).id) 1 4)) := by
  unfold okAt
  cases hb : nodeOkB (X k) with
  | false => rfl
  | true =>
    have hid : (X k).id ≠ 0 := by
      rw [nodeOk_is] at hb
      simp only [Bool.and_eq_true] at hb
      have h1 := hb.1
      unfold idsB at h1
      simp only [Bool.and_eq_true, inB_true] at h1
      omega
    rw [decide_eq_true hf, depthJ_is (.inl hid)]
    show (true && (true && (inB (depthI X n (X k).id) 1 4 && holdB X n (X k).par))) = _
    simp [Bool.and_comm]

set_option maxHeartbeats 8000000 in
set_option maxRecDepth 100000 in
theorem implSceneOk_any (X : Nat → Nd) (A : Nat → Na) (ao : Option Addr) (n cp : Nat) (hn : n ≤ 1048576) (hs : ∀ i, i < n → (X i).Small) (hw1 : ∀ i, i < n → (Lit.int .i64 (X i).id).wf = true) (hw2 : ∀ i, i < n → (Lit.int .i64 (X i).par).wf = true) (w : World) (P : ∀ i, i < n → NrAt w ao i (X i) (A i)) :
    Calls Tryz.prog 14 #[.agg #[.slice ao n cp]] w fun r w' => r = .returned (.bool (sceneOkB X n)) ∧ Below w.heap.size w w' := by
  have hyes : Hid (n ≤ 8 → (∀ i, i < n → okAt X n i = true) → sceneOkB X n = true) := fun h1 h2 => sceneOk_iff.2 ⟨h1, h2⟩
  have hbig : Hid (¬ n ≤ 8 → sceneOkB X n = false) := fun h => sceneOk_no (fun e => h e.1)
  have hno : Hid (∀ i, i < n → okAt X n i = false → sceneOkB X n = false) := fun i hi h => sceneOk_no (fun e => by have := e.2 i hi; rw [h] at this; cases this)
  have htwo : Hid (firsts X n ≠ n → sceneOkB X n = false) := fun h => by
    obtain ⟨i, hi, e⟩ := firsts_no h
    exact unhide hno i hi (by unfold okAt; rw [decide_eq_false e]; simp)
  generalize sceneOkB X n = Z at hyes hbig hno htwo ⊢
  have ES := hide (fun u => implStandingOf_any X A ao n cp hn hw1 u)
  replace P := hide P
  replace hs := hide hs
  replace hw1 := hide hw1
  replace hw2 := hide hw2
  go_enter Tryz.func14, Tryz.ntmps14
  go_upto_region 1 with fail
  have R := hide (new_row w (.cells #[.slice ao n cp] 26))
  have HB := hide (al1_below w (.cells #[.slice ao n cp] 26))
  obtain ⟨b1, hb1⟩ : ∃ z, Hid (z = w.heap.size) := ⟨_, rfl⟩
  rw [← unhide hb1] at R ⊢
  clear hb1
  generalize w.alloc (.cells #[.slice ao n cp] 26) = W at R HB ⊢
  have c0 := row1 (unhide R)
  by_cases h8 : n ≤ 8
  rotate_left
  · have h8i : (8 : Int) < (n : Int) := by omega
    have hX := hide (unhide hbig h8)
    go_wp2_with fail
    go_ret
    exact ⟨ret_bool (unhide hX).symm, unhide HB⟩
  have h8i : ¬ (8 : Int) < (n : Int) := by omega
  have E1 := hide (unhide ES W (fun i hi => (unhide P i hi).next (unhide HB)))
  go_wp2_with fail
  go_fit (unhide E1)
  rintro r u1 ⟨m, rfl, S, _, hb⟩
  replace S := hide S
  replace R := hide (row_next hb (unhide R))
  replace HB := hide (below_two (unhide HB) hb)
  clear hb c0 E1 ES
  have c0 := row1 (unhide R)
  have hlen := (unhide S).len
  by_cases h9 : firsts X n = n
  rotate_left
  · have hX := hide (unhide htwo h9)
    have hq : (((firsts X n : Nat) : Int) == (n : Int)) = false := beq_eq_false_iff_ne.2 (by omega)
    go_wp2_with fail
    go_ret
    exact ⟨ret_bool (unhide hX).symm, unhide HB⟩
  have hfst := hide (firsts_all h9)
  rw [h9] at hlen
  clear h9
  go_upto_region 7 with fail
  clear c0 hlen
  go_loopw [21] (fun i u => ∃ k : Nat, k ≤ n ∧ i = .int .i64 (k : Int) ∧ Hid (∀ j, j < k → okAt X n j = true) ∧ Hid (Below u1.heap.size u1 u)) (fun i _ => n - (intOf i).toNat)
  case atStart => exact ⟨0, Nat.zero_le _, rfl, fun j hj => absurd hj (by omega), Below.refl _ _⟩
  case round =>
    obtain ⟨k, hk, rfl, HK, D⟩ := hrel
    by_cases hkn : k < n
    · have hki : (k : Int) < (n : Int) := by omega
      replace HB := hide (below_two (unhide HB) (unhide D))
      have HP := hide ((unhide P k hkn).next (unhide HB))
      have hsk := hide (unhide hs k hkn)
      have hval := hide (okAt_hold (unhide hfst k hkn))
      have hnok := hide (unhide hno k hkn)
      have hmore : Hid (okAt X n k = true → ∀ j, j < k + 1 → okAt X n j = true) := fun h j hj => by
        by_cases e : j = k
        · subst e; exact h
        · exact unhide HK j (by omega)
      have hv1 := hide (unhide hw1 k hkn)
      have hv2 := hide (unhide hw2 k hkn)
      obtain ⟨xx, hxx⟩ : ∃ z, Hid (X k = z) := ⟨_, rfl⟩
      obtain ⟨ss, hss⟩ : ∃ z, Hid (A k = z) := ⟨_, rfl⟩
      rw [unhide hxx, unhide hss] at HP
      rw [unhide hxx] at hsk hval hv1 hv2
      obtain ⟨b, o, hao, hrg⟩ := (unhide HP).range
      replace hrg := hide hrg
      subst hao
      as_aux_lemma =>
      go_upto_region 9 with (first | refine load_node rfl _ rfl b (o + k * 31) rfl xx ss (unhide hrg) ?_ | refine store_new rfl _ _ rfl _ xx ss rfl rfl rfl ?_)
      have R4 := hide (new_row wr (.cells (ndC xx ss) 41))
      have D4 := hide (al1_below wr (.cells (ndC xx ss) 41))
      have HI := hide ((unhide HP).inn.next (unhide D4))
      replace HB := hide (below_two (unhide HB) (unhide D4))
      replace D := hide (below_two (unhide D) (unhide D4))
      clear hrg HP D4
      generalize wr.alloc (.cells (ndC xx ss) 41) = W4 at R4 HB HI D ⊢
      generalize wr.heap.size = b4 at R4 ⊢
      as_aux_lemma =>
      have E1 := hide (implNodeOk_c xx ss (unhide hsk) W4 (unhide HI))
      generalize nodeOkB xx = i1 at E1 hval
      go_wp2_with (refine load_own rfl _ rfl b4 rfl xx ss 41 (unhide R4) ?_)
      go_fit (unhide E1)
      rintro r u2 ⟨rfl, hb⟩
      replace R4 := hide (row_next hb (unhide R4))
      replace HB := hide (below_two (unhide HB) hb)
      replace D := hide (below_two (unhide D) hb)
      clear hb E1 HI
      cases i1 with
      | false =>
        have hX := hide (unhide hnok (by rw [unhide hval]; rfl))
        go_wp2_with fail
        go_ret
        exact ⟨ret_bool (unhide hX).symm, unhide HB⟩
      | true =>
      as_aux_lemma =>
      obtain ⟨c0, c1, c2⟩ := headsC (unhide R4)
      have S2 := hide ((unhide S).next (unhide D))
      have E2 := hide (implMayHold_any X A _ n m xx.par (unhide hv2) u2 (unhide S2) (fun i hi => (unhide P i hi).next (unhide HB)))
      have E3 := hide (implDepthOfM_any X A _ n m (unhide hw2) xx.id (unhide hv1) u2 (unhide S2) (fun i hi => (unhide P i hi).next (unhide HB)))
      generalize holdB X n xx.par = i2 at E2 hval
      generalize depthJ X n xx.id = dp at E3 hval
      go_wp2_with fail
      go_fit (unhide E2)
      rintro r u3 ⟨rfl, hu⟩
      rw [hu]
      clear hu u3 E2
      cases i2 with
      | false =>
        have hX := hide (unhide hnok (by rw [unhide hval]; rfl))
        go_wp2_with fail
        go_ret
        exact ⟨ret_bool (unhide hX).symm, unhide HB⟩
      | true =>
      as_aux_lemma =>
      go_wp2_with fail
      go_fit (unhide E3)
      rintro r u3 ⟨rfl, hu⟩
      rw [hu]
      clear hu u3 E3
      have E4 := hide (implDepthOk_any dp)
      generalize inB dp 1 4 = i3 at E4 hval
      go_wp2_with fail
      go_fit (unhide E4 _)
      rintro r u4 ⟨rfl, hu⟩
      rw [hu]
      clear hu u4 E4
      cases i3 with
      | false =>
        have hX := hide (unhide hnok (by rw [unhide hval]; rfl))
        go_wp2_with fail
        go_ret
        exact ⟨ret_bool (unhide hX).symm, unhide HB⟩
      | true =>
      have hgo := hide (unhide hmore (by rw [unhide hval]; rfl))
      go_wp2_with fail
      go_roundw
      case rel => exact ⟨k + 1, by omega, by go_num, hgo, D⟩
      case measure => simp [intOf]; omega
    · have hke : k = n := by omega
      subst hke
      have hki : ¬ (k : Int) < (k : Int) := by omega
      have hX := hide (unhide hyes h8 (unhide HK))
      replace HB := hide (below_two (unhide HB) (unhide D))
      go_wp2_with fail
      go_ret
      exact ⟨ret_bool (unhide hX).symm, unhide HB⟩
end Go.Proofs.YtmafopckplpajaaGreatDoor
