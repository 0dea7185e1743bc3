/-
  TreesL: texts of one claim, in one.
-/
import Derived.Test.YthelfgippiimiabFnTreesM8
import Derived.Test.YthelfgippiimiabFnTreesM9
import Derived.Deep.RegionHeld3
import Derived.Deep.DeepCutAuto
import Derived.Deep.DeepFit

/-
  FnTrees: in a drawn scene the kids of all parents are all nodes; depths are one more than a parent's; who is under a node has it above. (By treeslaw.py.)
-/
namespace Go.Proofs.Ythelfgippiimiab
open Go.RowKit
set_option linter.unusedVariables false

set_option maxHeartbeats 16000000 in
set_option maxRecDepth 100000 in
theorem fnTrees_walk (a0 : Option Addr) (len0 cap0 : Nat) (z0 : List Int) (w : World) (w0 : IsRow .u8 w a0 len0 cap0 z0) :
    Calls Try.prog 3 #[.slice a0 len0 cap0] w fun e w' => e = .returned (.bool true) ∧ Below w.heap.size w w' := by
  by_cases hl : len0 ≤ 1048576
  rotate_left
  · go_enter Try.func3, Try.ntmps3
    go_wp2_with (go_at_call 7; go_must (refine (big_yes a0 len0 cap0 hl _).mono ?_); rintro e w1 ⟨rfl, rfl⟩)
    go_ret
    exact ⟨rfl, Below.refl _ _⟩
  have HI := hide (InB.of_row w0)
  clear w0
  go_enter Try.func3, Try.ntmps3
  go_wp2_with fail
  refine (big_no a0 len0 cap0 hl _).mono ?_
  rintro e w1 ⟨rfl, hw⟩
  rw [hw]
  clear hw w1
  go_wp2_with fail
  refine (drawScene_any a0 len0 cap0 _ hl (unhide HI)).mono ?_
  rintro e w2 ⟨⟨n, p, c, X, A, rfl, hn5, hnc, hS, hN, hid⟩, hb⟩
  go_upto_region 4 with fail
  have R3 := hide (new_row w2 (.cells #[.slice p n c] 26))
  have HB := hide (below_two hb (al1_below w2 (.cells #[.slice p n c] 26)))
  replace hN := hide (fun i hi => (hN i hi).next (al1_below w2 (.cells #[.slice p n c] 26)))
  clear hb HI
  generalize w2.alloc (.cells #[.slice p n c] 26) = W at R3 HB hN ⊢
  generalize w2.heap.size = b3 at R3 ⊢
  have RR := hide (fun u (hu : Below W.heap.size W u) => row1 (row_next hu (unhide R3)))
  have hok : ∀ i, i < n → nodeOkB (X i) = true := fun i hi => (okAt_iff.1 (hS.2 i hi)).1
  have hsm : ∀ i, i < n → (X i).Small := fun i hi => node_small (hok i hi)
  have hw1 : ∀ i, i < n → (Lit.int .i64 (X i).id).wf = true := fun i hi => WalkArith.wf_i64 (by have := (node_ids (hok i hi)).1; omega)
  have hw2 : ∀ i, i < n → (Lit.int .i64 (X i).par).wf = true := fun i hi => WalkArith.wf_i64 (by have := (node_ids (hok i hi)).2.1; omega)
  have hno0 : firstN X 98 n = -1 := first_none (fun j hj e => by have := hid j hj; omega)
  have hn : n ≤ 1048576 := by omega
  have NN := hide (fun u (hu : Below W.heap.size W u) i hi => (unhide hN i hi).next hu)
  obtain ⟨KF, hKF⟩ : ∃ f : Nat → Nat, Hid (f = fun m => (kidsL X n (X m).id).length) := ⟨_, rfl⟩
  obtain ⟨T, hT⟩ : ∃ f : Nat → Nat, Hid (f = fun k => (kidsL X n 0).length + sumF KF k) := ⟨_, rfl⟩
  have hTn : Hid (T n = n) := by show T n = n; rw [unhide hT, unhide hKF]; exact kids_all hS
  have hTb : Hid (∀ k, k ≤ n → T k ≤ n) := fun k hk => by
    have h1 := unhide hTn
    rw [unhide hT] at h1 ⊢
    have := sumF_up KF hk
    dsimp only at h1 ⊢
    omega
  have hTs : Hid (∀ k, T k + KF k = T (k + 1)) := fun k => by rw [unhide hT]; dsimp only; rw [sumF]; omega
  have E0 := hide (fun u (hu : Below W.heap.size W u) => (implKidsOf_any X A p n c hn 0 u (unhide NN u hu)).mono fun r w' h => show ∃ q cq, r = .returned (.slice q (T 0) cq) ∧ Below u.heap.size u w' by
    obtain ⟨q, cq, h1, _, h3⟩ := h
    refine ⟨q, cq, ?_, h3⟩
    rw [h1, unhide hT]
    rfl)
  have EK := hide (fun k u (hu : Below W.heap.size W u) => (implKidsOf_any X A p n c hn (X k).id u (unhide NN u hu)).mono fun r w' h => show ∃ q cq, r = .returned (.slice q (KF k) cq) ∧ Below u.heap.size u w' by
    obtain ⟨q, cq, h1, _, h3⟩ := h
    refine ⟨q, cq, ?_, h3⟩
    rw [h1, unhide hKF])
  have ESc := hide (fun u (hu : Below W.heap.size W u) => (implSceneOk_any X A p n c hn hsm hw1 hw2 u (unhide NN u hu)).mono fun r w' h => show r = .returned (.bool true) ∧ Below u.heap.size u w' by rw [sceneOk_iff.2 hS] at h; exact h)
  have ENo := hide (fun k (hk : k < n) u (hu : Below W.heap.size W u) => (implNodeOk_c (X k) (A k) (hsm k hk) u (unhide NN u hu k hk).inn).mono fun r w' h => show r = .returned (.bool true) ∧ Below u.heap.size u w' by rw [hok k hk] at h; exact h)
  have ENa := hide (fun z (k : Nat) (hz : firstN X z n = (k : Int)) u (hu : Below W.heap.size W u) => (implNodeAt_any X A p n c hn z u (unhide NN u hu)).mono fun r w' h => show r = .returned (.int .i64 (k : Int)) ∧ Below u.heap.size u w' by rw [hz] at h; exact h)
  have ED := hide (fun z d (hz : (Lit.int .i64 z).wf = true) (hd : depthI X n z = d) u (hu : Below W.heap.size W u) => (implDepthOf_right X A p n c hS z hz u (unhide NN u hu)).mono fun r w' h => show r = .returned (.int .i64 d) ∧ Below u.heap.size u w' by rw [hd] at h; exact h)
  have EU := hide (fun z (hz : (Lit.int .i64 z).wf = true) u (hu : Below W.heap.size W u) => (implUnderOf_right X A p n c hS z hz u (unhide NN u hu)).mono fun r w' h => ids_at h)
  have ES := hide (fun z u (hu : Below W.heap.size W u) => (specUnderOf_any X A p n c hn z u (unhide NN u hu)).mono fun r w' h => ids_at h)
  have EN0 := hide (show (underL X n 98).length = 0 by rw [under_none hno0]; rfl)
  have ED0 := hide (unhide ED 0 0 (WalkArith.wf_i64 (by omega)) (depth_zero X n))
  have ED98 := hide (unhide ED 98 0 (WalkArith.wf_i64 (by omega)) (depth_none hno0))
  have EU98 := hide (fun u (hu : Below W.heap.size W u) => (unhide EU 98 (WalkArith.wf_i64 (by omega)) u hu).mono fun r w' h => show ∃ q cq, r = .returned (.slice q 0 cq) ∧ Below u.heap.size u w' by
    obtain ⟨q, cq, h1, _, h3⟩ := h
    rw [unhide EN0] at h1
    exact ⟨q, cq, h1, h3⟩)
  replace hS := hide hS
  replace hw1 := hide hw1
  replace hw2 := hide hw2
  replace hok := hide hok
  clear hsm hid hno0 EN0 hN hKF hT R3 hnc
  have cc := unhide RR _ (Below.refl _ _)
  go_wp2_with fail
  go_fit (unhide E0 _ (Below.refl _ _))
  rintro r w4 ⟨q4, c4, rfl, hb4⟩
  clear cc E0
  have cc := unhide RR _ hb4
  replace hb4 := hide hb4
  go_wp2_with fail
  go_fit (unhide ESc _ (unhide hb4))
  rintro r w5 ⟨rfl, hb5⟩
  have B5 := hide (below_two (unhide hb4) hb5)
  clear cc hb5 hb4 ESc
  go_wp2_with fail
  go_loopw [4, 5] (fun t i u => ∃ k : Nat, k ≤ n ∧ t = .int .i64 (T k : Int) ∧ i = .int .i64 (k : Int) ∧ Hid (Below W.heap.size W u)) (fun _ i _ => n - (intOf i).toNat)
  case atStart => exact ⟨0, Nat.zero_le _, rfl, rfl, B5⟩
  case round =>
    clear B5
    obtain ⟨k, hk, rfl, rfl, BB⟩ := hrel
    have cc := unhide RR _ (unhide BB)
    by_cases hlt : k < n
    · have hlt' : (k : Int) < (n : Int) := by omega
      obtain ⟨b, o, hao, hrg⟩ := (unhide NN _ (unhide BB) k hlt).range
      subst hao
      replace hrg := hide hrg
      have ENok := hide (unhide ENo k hlt)
      have hfk : firstN X (X k).id n = (k : Int) := (okAt_iff.1 ((unhide hS).2 k hlt)).2.1
      have ENak := hide (unhide ENa (X k).id k hfk)
      obtain ⟨dp, hdp⟩ : ∃ d, depthI X n (X k).par = d := ⟨_, rfl⟩
      have hds : depthI X n (X k).id = dp + 1 := by rw [depth_step (unhide hS) hlt, hdp]
      have hdb : 1 ≤ dp + 1 ∧ dp + 1 ≤ 4 := by have := (okAt_iff.1 ((unhide hS).2 k hlt)).2.2.1; rw [hds] at this; exact this
      have EDi := hide (unhide ED (X k).id (dp + 1) (unhide hw1 k hlt) hds)
      have EDp := hide (unhide ED (X k).par dp (unhide hw2 k hlt) hdp)
      have hwd : IntKind.i64.wrap (dp + 1) = dp + 1 := IntWalk.i64_in _ (by omega)
      have EKk := hide (unhide EK k)
      have EUk := hide (unhide EU (X k).id (unhide hw1 k hlt))
      have ESk := hide (unhide ES (X k).id)
      have hLb : (underL X n (X k).id).length ≤ n := under_few X n _
      have hself := hide (mem_at (under_self (unhide hS) hlt))
      have hpar := hide (fun (j : Nat) (hj : j < (underL X n (X k).id).length) => under_par (unhide hS) hlt (at_mem hj))
      have hparm := hide (fun (z : Int) (hz : z ∈ underL X n (X k).id) => mem_at hz)
      have hpar2 := hide (fun (j : Nat) (hj : j < (underL X n (X k).id).length) => show ∃ m : Nat, m < n ∧ firstN X ((underL X n (X k).id).getD j 0) n = (m : Int) ∧ (X m).id = (underL X n (X k).id).getD j 0 ∧ ((X m).id ≠ (X k).id → ∃ i, i < (underL X n (X k).id).length ∧ (underL X n (X k).id).getD i 0 = (X m).par) from by
        obtain ⟨m, h1, h2, h3, h4⟩ := unhide hpar j hj
        exact ⟨m, h1, h2, h3, fun e => unhide hparm _ (h4 (by rw [← h3]; exact e))⟩)
      clear hpar hparm hdp hds hfk
      obtain ⟨xx, hxx⟩ : ∃ z, Hid (X k = z) := ⟨_, rfl⟩
      obtain ⟨ss, hss⟩ : ∃ z, Hid (A k = z) := ⟨_, rfl⟩
      rw [unhide hxx] at ENok ENak EDi EDp EKk EUk ESk hLb hself hpar2
      rw [unhide hss] at ENok
      rw [unhide hxx, unhide hss] at hrg
      obtain ⟨LN, hLN⟩ : ∃ z, Hid ((underL X n xx.id).length = z) := ⟨_, rfl⟩
      obtain ⟨LF, hLF⟩ : ∃ z : Nat → Int, Hid ((fun i => (underL X n xx.id).getD i 0) = z) := ⟨_, rfl⟩
      have EUk' := hide (fun u hu => (unhide EUk u hu).mono fun r w' h => show ∃ q cq, r = .returned (.slice q LN cq) ∧ (∀ i, i < LN → IntAt w' q i (LF i)) ∧ Below u.heap.size u w' by rw [← unhide hLN, ← unhide hLF]; exact h)
      have ESk' := hide (fun u hu => (unhide ESk u hu).mono fun r w' h => show ∃ q cq, r = .returned (.slice q LN cq) ∧ (∀ i, i < LN → IntAt w' q i (LF i)) ∧ Below u.heap.size u w' by rw [← unhide hLN, ← unhide hLF]; exact h)
      have hself' : Hid (∃ i, i < LN ∧ LF i = xx.id) := by rw [← unhide hLN, ← unhide hLF]; exact unhide hself
      have hpar' : Hid (∀ j, j < LN → ∃ m : Nat, m < n ∧ firstN X (LF j) n = (m : Int) ∧ (X m).id = LF j ∧ ((X m).id ≠ xx.id → ∃ i, i < LN ∧ LF i = (X m).par)) := by rw [← unhide hLN, ← unhide hLF]; exact unhide hpar2
      rw [unhide hLN] at hLb
      clear EUk ESk hself hpar2 hLN hLF hxx hss
      obtain ⟨xid, hxid⟩ : ∃ z, xx.id = z := ⟨_, rfl⟩
      obtain ⟨xpar, hxpar⟩ : ∃ z, xx.par = z := ⟨_, rfl⟩
      rw [hxid] at ENak EDi EKk EUk' ESk' hself' hpar'
      rw [hxpar] at EDp
      go_upto_region 11 with (first | refine load_node rfl _ rfl b (o + k * 31) rfl xx ss (unhide hrg) ?_ | refine store_new rfl _ _ rfl _ xx ss rfl rfl rfl ?_)
      have R6 := hide (new_row wr (.cells (ndC xx ss) 43))
      have B6 := hide (below_two (unhide BB) (al1_below wr (.cells (ndC xx ss) 43)))
      clear cc hrg BB
      generalize wr.alloc (.cells (ndC xx ss) 43) = V at R6 B6 ⊢
      generalize wr.heap.size = b6 at R6 ⊢
      have RR6 := hide (fun u (hu : Below V.heap.size V u) => show u.cell? ⟨b3, 0, none⟩ = some (.slice (some ⟨b, o, none⟩) n c) ∧ u.cell? ⟨b6, 0, none⟩ = some (.int .i64 xid) ∧ u.cell? ⟨b6, 1, none⟩ = some (.int .i64 xpar) from
        ⟨unhide RR _ (below_two (unhide B6) hu), by rw [← hxid]; exact (nd_heads (row_next hu (unhide R6))).1, by rw [← hxpar]; exact (nd_heads (row_next hu (unhide R6))).2⟩)
      obtain ⟨d0, d1, d2⟩ := unhide RR6 _ (Below.refl _ _)
      have hTk := unhide hTs k
      have hTw : IntKind.i64.wrap ((T k : Int) + (KF k : Int)) = (T (k + 1) : Int) := by
        have := unhide hTb (k + 1) (by omega)
        rw [IntWalk.i64_in _ (by omega)]
        omega
      go_wp2_with fail
      go_fit (unhide EKk _ (unhide B6))
      rintro r V6 ⟨q6, c6, rfl, hb6⟩
      clear d0 d1 d2
      go_upto_region 12 with fail
      clear hTk hTw
      have BB := hide (below_two (unhide B6) hb6)
      have hS12 : Hid (∀ u, Below V6.heap.size V6 u → Hid (Below V6.heap.size V6 u) ∧ u.cell? ⟨b3, 0, none⟩ = some (.slice (some ⟨b, o, none⟩) n c) ∧ u.cell? ⟨b6, 0, none⟩ = some (.int .i64 xid) ∧ u.cell? ⟨b6, 1, none⟩ = some (.int .i64 xpar)) := fun u hu => ⟨hu, unhide RR6 _ (below_two hb6 hu)⟩
      have hR12 : Hid (∀ u, Below V6.heap.size V6 u → u.rangeAt b6 0 (ndC xx ss).toList) := fun u hu => nd_rng (row_next (below_two hb6 hu) (unhide R6))
      replace hb6 := hide hb6
      refine wp_region_held_drew (S := (fun u => Hid (Below V6.heap.size V6 u) ∧ u.cell? ⟨b3, 0, none⟩ = some (.slice (some ⟨b, o, none⟩) n c) ∧ u.cell? ⟨b6, 0, none⟩ = some (.int .i64 xid) ∧ u.cell? ⟨b6, 1, none⟩ = some (.int .i64 xpar))) (by kernel_rfl) ?_ (fun hHeld => ?_)
      · exact unhide hS12 _ (Below.refl _ _).drew
      refine wpAnyH_take (i := 0) (oi := { dst := some 39, op := Op.load 43 (Operand.tmp 6), type := 43, pos := "laws.go:671", after := #[], guard := none }) (v := .agg (ndC xx ss)) rfl (by kernel_rfl) (by kernel_rfl) (by kernel_rfl) (fun _ _ _ h => h) (yields_inode rfl _ rfl b6 0 rfl xx ss (fun u hu => unhide hR12 u (unhide hu.1))) (by assumption) ?_
      try simp only [Act.put, List.setIfInBounds_toArray, List.set_cons_zero, List.set_cons_succ]
      refine wpAnyH_ready (rs := [1]) (by kernel_rfl) (by simp) ?_
      refine AllReadyH.cons (o := { dst := some 40, op := Op.call { callee := Callee.value (Operand.func 11), args := #[Operand.tmp 39], argTypes := #[43] }, type := 4, pos := "laws.go:671", after := #[{ on := 0, ground := Ground.data }], guard := none }) rfl (fun K hK => ?_) AllReadyH.nil
      go_simp
      (first | (go_at_call 11; go_fit (unhide ENok _ (below_two (unhide BB) (unhide hHeld.1))); rintro r wn ⟨rfl, hbn⟩; have sn := unhide hS12 _ (below_two (unhide hHeld.1) hbn)) | (go_at_call 12; go_fit (unhide ENak _ (below_two (unhide BB) (unhide hHeld.1))); rintro r wn ⟨rfl, hbn⟩; have sn := unhide hS12 _ (below_two (unhide hHeld.1) hbn)) | (go_at_call 13; (first | go_fit (unhide EDi _ (below_two (unhide BB) (unhide hHeld.1))) | go_fit (unhide EDp _ (below_two (unhide BB) (unhide hHeld.1)))); rintro r wn ⟨rfl, hbn⟩; have sn := unhide hS12 _ (below_two (unhide hHeld.1) hbn)))
      refine hK.out _ _ ?_ (fun hHeld => ?_)
      · with_reducible exact sn
      clear hK K
      try simp only [Act.put, List.setIfInBounds_toArray, List.set_cons_zero, List.set_cons_succ]
      refine wpAnyH_take (i := 2) (oi := { dst := some 41, op := Op.unOp UnOp.not 4 (Operand.tmp 40), type := 4, pos := "laws.go:671", after := #[{ on := 1, ground := Ground.data }], guard := none }) (v := ?_) rfl (by kernel_rfl) (by kernel_rfl) (by kernel_rfl) (fun _ _ _ h => h) (Or.inl ⟨by rfl, ?_⟩) (by assumption) ?_
      rotate_left
      · intro w hSw; (try dsimp only at hSw); go_simp <;> with_reducible rfl
      try simp only [Act.put, List.setIfInBounds_toArray, List.set_cons_zero, List.set_cons_succ]
      refine wpAnyH_take (i := 3) (oi := { dst := some 42, op := Op.move (Operand.tmp 41), type := 4, pos := "laws.go:671", after := #[{ on := 2, ground := Ground.data }, { on := 1, ground := Ground.chain }], guard := none }) (v := ?_) rfl (by kernel_rfl) (by kernel_rfl) (by kernel_rfl) (fun _ _ _ h => h) (Or.inl ⟨by rfl, ?_⟩) (by assumption) ?_
      rotate_left
      · intro w hSw; (try dsimp only at hSw); go_simp <;> with_reducible rfl
      try simp only [Act.put, List.setIfInBounds_toArray, List.set_cons_zero, List.set_cons_succ]
      refine wpAnyH_take (i := 4) (oi := { dst := some 43, op := Op.load 26 (Operand.tmp 3), type := 26, pos := "laws.go:671", after := #[{ on := 3, ground := Ground.guard }], guard := some (3, false) }) (v := ?_) rfl (by kernel_rfl) (by kernel_rfl) (by kernel_rfl) (fun _ _ _ h => h) (Or.inl ⟨by rfl, ?_⟩) (by assumption) ?_
      rotate_left
      · intro w hSw; (try dsimp only at hSw); go_simp <;> with_reducible rfl
      try simp only [Act.put, List.setIfInBounds_toArray, List.set_cons_zero, List.set_cons_succ]
      refine wpAnyH_take (i := 5) (oi := { dst := some 44, op := Op.fieldAddr 43 (Operand.tmp 6) 0, type := 0, pos := "laws.go:671", after := #[{ on := 3, ground := Ground.guard }], guard := some (3, false) }) (v := ?_) rfl (by kernel_rfl) (by kernel_rfl) (by kernel_rfl) (fun _ _ _ h => h) (Or.inl ⟨by rfl, ?_⟩) (by assumption) ?_
      rotate_left
      · intro w hSw; (try dsimp only at hSw); go_simp <;> with_reducible rfl
      try simp only [Act.put, List.setIfInBounds_toArray, List.set_cons_zero, List.set_cons_succ]
      refine wpAnyH_take (i := 6) (oi := { dst := some 45, op := Op.load 3 (Operand.tmp 44), type := 3, pos := "laws.go:671", after := #[{ on := 5, ground := Ground.data }, { on := 3, ground := Ground.guard }], guard := some (3, false) }) (v := ?_) rfl (by kernel_rfl) (by kernel_rfl) (by kernel_rfl) (fun _ _ _ h => h) (Or.inl ⟨by rfl, ?_⟩) (by assumption) ?_
      rotate_left
      · intro w hSw; (try dsimp only at hSw); go_simp <;> with_reducible rfl
      try simp only [Act.put, List.setIfInBounds_toArray, List.set_cons_zero, List.set_cons_succ]
      refine wpAnyH_take (i := 8) (oi := { dst := some 47, op := Op.move (Operand.tmp 5), type := 3, pos := "laws.go:671", after := #[{ on := 3, ground := Ground.guard }], guard := some (3, false) }) (v := ?_) rfl (by kernel_rfl) (by kernel_rfl) (by kernel_rfl) (fun _ _ _ h => h) (Or.inl ⟨by rfl, ?_⟩) (by assumption) ?_
      rotate_left
      · intro w hSw; (try dsimp only at hSw); go_simp <;> with_reducible rfl
      try simp only [Act.put, List.setIfInBounds_toArray, List.set_cons_zero, List.set_cons_succ]
      refine wpAnyH_ready (rs := [7]) (by kernel_rfl) (by simp) ?_
      refine AllReadyH.cons (o := { dst := some 46, op := Op.call { callee := Callee.value (Operand.func 12), args := #[Operand.tmp 43, Operand.tmp 45], argTypes := #[26, 3] }, type := 3, pos := "laws.go:671", after := #[{ on := 4, ground := Ground.data }, { on := 6, ground := Ground.data }, { on := 3, ground := Ground.chain }, { on := 3, ground := Ground.guard }], guard := some (3, false) }) rfl (fun K hK => ?_) AllReadyH.nil
      go_simp
      (first | (go_at_call 11; go_fit (unhide ENok _ (below_two (unhide BB) (unhide hHeld.1))); rintro r wn ⟨rfl, hbn⟩; have sn := unhide hS12 _ (below_two (unhide hHeld.1) hbn)) | (go_at_call 12; go_fit (unhide ENak _ (below_two (unhide BB) (unhide hHeld.1))); rintro r wn ⟨rfl, hbn⟩; have sn := unhide hS12 _ (below_two (unhide hHeld.1) hbn)) | (go_at_call 13; (first | go_fit (unhide EDi _ (below_two (unhide BB) (unhide hHeld.1))) | go_fit (unhide EDp _ (below_two (unhide BB) (unhide hHeld.1)))); rintro r wn ⟨rfl, hbn⟩; have sn := unhide hS12 _ (below_two (unhide hHeld.1) hbn)))
      refine hK.out _ _ ?_ (fun hHeld => ?_)
      · with_reducible exact sn
      clear hK K
      try simp only [Act.put, List.setIfInBounds_toArray, List.set_cons_zero, List.set_cons_succ]
      refine wpAnyH_take (i := 9) (oi := { dst := some 48, op := Op.binOp BinOp.neq 3 (Operand.tmp 46) (Operand.tmp 47) 3, type := 4, pos := "laws.go:671", after := #[{ on := 7, ground := Ground.data }, { on := 8, ground := Ground.data }, { on := 3, ground := Ground.guard }], guard := some (3, false) }) (v := ?_) rfl (by kernel_rfl) (by kernel_rfl) (by kernel_rfl) (fun _ _ _ h => h) (Or.inl ⟨by rfl, ?_⟩) (by assumption) ?_
      rotate_left
      · intro w hSw; (try dsimp only at hSw); go_simp <;> with_reducible rfl
      try simp only [Act.put, List.setIfInBounds_toArray, List.set_cons_zero, List.set_cons_succ]
      refine wpAnyH_take (i := 10) (oi := { dst := some 49, op := Op.pick (Operand.tmp 42) (Operand.const (Value.bool true)) (Operand.tmp 48), type := 4, pos := "laws.go:671", after := #[{ on := 3, ground := Ground.data }, { on := 9, ground := Ground.data }], guard := none }) (v := ?_) rfl (by kernel_rfl) (by kernel_rfl) (by kernel_rfl) (fun _ _ _ h => h) (Or.inl ⟨by rfl, ?_⟩) (by assumption) ?_
      rotate_left
      · intro w hSw; (try dsimp only at hSw); go_simp <;> with_reducible rfl
      try simp only [Act.put, List.setIfInBounds_toArray, List.set_cons_zero, List.set_cons_succ]
      refine wpAnyH_take (i := 11) (oi := { dst := some 50, op := Op.move (Operand.tmp 49), type := 4, pos := "laws.go:671", after := #[{ on := 10, ground := Ground.data }, { on := 7, ground := Ground.chain }], guard := none }) (v := ?_) rfl (by kernel_rfl) (by kernel_rfl) (by kernel_rfl) (fun _ _ _ h => h) (Or.inl ⟨by rfl, ?_⟩) (by assumption) ?_
      rotate_left
      · intro w hSw; (try dsimp only at hSw); go_simp <;> with_reducible rfl
      try simp only [Act.put, List.setIfInBounds_toArray, List.set_cons_zero, List.set_cons_succ]
      refine wpAnyH_take (i := 12) (oi := { dst := some 51, op := Op.load 26 (Operand.tmp 3), type := 26, pos := "laws.go:671", after := #[{ on := 11, ground := Ground.guard }], guard := some (11, false) }) (v := ?_) rfl (by kernel_rfl) (by kernel_rfl) (by kernel_rfl) (fun _ _ _ h => h) (Or.inl ⟨by rfl, ?_⟩) (by assumption) ?_
      rotate_left
      · intro w hSw; (try dsimp only at hSw); go_simp <;> with_reducible rfl
      try simp only [Act.put, List.setIfInBounds_toArray, List.set_cons_zero, List.set_cons_succ]
      refine wpAnyH_take (i := 13) (oi := { dst := some 52, op := Op.fieldAddr 43 (Operand.tmp 6) 0, type := 0, pos := "laws.go:671", after := #[{ on := 11, ground := Ground.guard }], guard := some (11, false) }) (v := ?_) rfl (by kernel_rfl) (by kernel_rfl) (by kernel_rfl) (fun _ _ _ h => h) (Or.inl ⟨by rfl, ?_⟩) (by assumption) ?_
      rotate_left
      · intro w hSw; (try dsimp only at hSw); go_simp <;> with_reducible rfl
      try simp only [Act.put, List.setIfInBounds_toArray, List.set_cons_zero, List.set_cons_succ]
      refine wpAnyH_take (i := 14) (oi := { dst := some 53, op := Op.load 3 (Operand.tmp 52), type := 3, pos := "laws.go:671", after := #[{ on := 13, ground := Ground.data }, { on := 11, ground := Ground.guard }], guard := some (11, false) }) (v := ?_) rfl (by kernel_rfl) (by kernel_rfl) (by kernel_rfl) (fun _ _ _ h => h) (Or.inl ⟨by rfl, ?_⟩) (by assumption) ?_
      rotate_left
      · intro w hSw; (try dsimp only at hSw); go_simp <;> with_reducible rfl
      try simp only [Act.put, List.setIfInBounds_toArray, List.set_cons_zero, List.set_cons_succ]
      refine wpAnyH_take (i := 16) (oi := { dst := some 55, op := Op.load 26 (Operand.tmp 3), type := 26, pos := "laws.go:671", after := #[{ on := 11, ground := Ground.guard }], guard := some (11, false) }) (v := ?_) rfl (by kernel_rfl) (by kernel_rfl) (by kernel_rfl) (fun _ _ _ h => h) (Or.inl ⟨by rfl, ?_⟩) (by assumption) ?_
      rotate_left
      · intro w hSw; (try dsimp only at hSw); go_simp <;> with_reducible rfl
      try simp only [Act.put, List.setIfInBounds_toArray, List.set_cons_zero, List.set_cons_succ]
      refine wpAnyH_take (i := 17) (oi := { dst := some 56, op := Op.fieldAddr 43 (Operand.tmp 6) 1, type := 0, pos := "laws.go:671", after := #[{ on := 11, ground := Ground.guard }], guard := some (11, false) }) (v := ?_) rfl (by kernel_rfl) (by kernel_rfl) (by kernel_rfl) (fun _ _ _ h => h) (Or.inl ⟨by rfl, ?_⟩) (by assumption) ?_
      rotate_left
      · intro w hSw; (try dsimp only at hSw); go_simp <;> with_reducible rfl
      try simp only [Act.put, List.setIfInBounds_toArray, List.set_cons_zero, List.set_cons_succ]
      refine wpAnyH_take (i := 18) (oi := { dst := some 57, op := Op.load 3 (Operand.tmp 56), type := 3, pos := "laws.go:671", after := #[{ on := 17, ground := Ground.data }, { on := 11, ground := Ground.guard }], guard := some (11, false) }) (v := ?_) rfl (by kernel_rfl) (by kernel_rfl) (by kernel_rfl) (fun _ _ _ h => h) (Or.inl ⟨by rfl, ?_⟩) (by assumption) ?_
      rotate_left
      · intro w hSw; (try dsimp only at hSw); go_simp <;> with_reducible rfl
      try simp only [Act.put, List.setIfInBounds_toArray, List.set_cons_zero, List.set_cons_succ]
      refine wpAnyH_ready (rs := [15]) (by kernel_rfl) (by simp) ?_
      refine AllReadyH.cons (o := { dst := some 54, op := Op.call { callee := Callee.value (Operand.func 13), args := #[Operand.tmp 51, Operand.tmp 53], argTypes := #[26, 3] }, type := 3, pos := "laws.go:671", after := #[{ on := 12, ground := Ground.data }, { on := 14, ground := Ground.data }, { on := 11, ground := Ground.chain }, { on := 11, ground := Ground.guard }], guard := some (11, false) }) rfl (fun K hK => ?_) AllReadyH.nil
      go_simp
      (first | (go_at_call 11; go_fit (unhide ENok _ (below_two (unhide BB) (unhide hHeld.1))); rintro r wn ⟨rfl, hbn⟩; have sn := unhide hS12 _ (below_two (unhide hHeld.1) hbn)) | (go_at_call 12; go_fit (unhide ENak _ (below_two (unhide BB) (unhide hHeld.1))); rintro r wn ⟨rfl, hbn⟩; have sn := unhide hS12 _ (below_two (unhide hHeld.1) hbn)) | (go_at_call 13; (first | go_fit (unhide EDi _ (below_two (unhide BB) (unhide hHeld.1))) | go_fit (unhide EDp _ (below_two (unhide BB) (unhide hHeld.1)))); rintro r wn ⟨rfl, hbn⟩; have sn := unhide hS12 _ (below_two (unhide hHeld.1) hbn)))
      refine hK.out _ _ ?_ (fun hHeld => ?_)
      · with_reducible exact sn
      clear hK K
      try simp only [Act.put, List.setIfInBounds_toArray, List.set_cons_zero, List.set_cons_succ]
      refine wpAnyH_ready (rs := [19]) (by kernel_rfl) (by simp) ?_
      refine AllReadyH.cons (o := { dst := some 58, op := Op.call { callee := Callee.value (Operand.func 13), args := #[Operand.tmp 55, Operand.tmp 57], argTypes := #[26, 3] }, type := 3, pos := "laws.go:671", after := #[{ on := 16, ground := Ground.data }, { on := 18, ground := Ground.data }, { on := 15, ground := Ground.chain }, { on := 11, ground := Ground.guard }], guard := some (11, false) }) rfl (fun K hK => ?_) AllReadyH.nil
      go_simp
      (first | (go_at_call 11; go_fit (unhide ENok _ (below_two (unhide BB) (unhide hHeld.1))); rintro r wn ⟨rfl, hbn⟩; have sn := unhide hS12 _ (below_two (unhide hHeld.1) hbn)) | (go_at_call 12; go_fit (unhide ENak _ (below_two (unhide BB) (unhide hHeld.1))); rintro r wn ⟨rfl, hbn⟩; have sn := unhide hS12 _ (below_two (unhide hHeld.1) hbn)) | (go_at_call 13; (first | go_fit (unhide EDi _ (below_two (unhide BB) (unhide hHeld.1))) | go_fit (unhide EDp _ (below_two (unhide BB) (unhide hHeld.1)))); rintro r wn ⟨rfl, hbn⟩; have sn := unhide hS12 _ (below_two (unhide hHeld.1) hbn)))
      refine hK.out _ _ ?_ (fun hHeld => ?_)
      · with_reducible exact sn
      clear hK K
      try simp only [Act.put, List.setIfInBounds_toArray, List.set_cons_zero, List.set_cons_succ]
      refine wpAnyH_take (i := 20) (oi := { dst := some 59, op := Op.binOp BinOp.add 3 (Operand.tmp 58) (Operand.const (Value.int IntKind.i64 1)) 3, type := 3, pos := "laws.go:671", after := #[{ on := 19, ground := Ground.data }, { on := 11, ground := Ground.guard }], guard := some (11, false) }) (v := ?_) rfl (by kernel_rfl) (by kernel_rfl) (by kernel_rfl) (fun _ _ _ h => h) (Or.inl ⟨by rfl, ?_⟩) (by assumption) ?_
      rotate_left
      · intro w hSw; (try dsimp only at hSw); go_simp <;> with_reducible rfl
      try simp only [Act.put, List.setIfInBounds_toArray, List.set_cons_zero, List.set_cons_succ]
      refine wpAnyH_take (i := 21) (oi := { dst := some 60, op := Op.binOp BinOp.neq 3 (Operand.tmp 54) (Operand.tmp 59) 3, type := 4, pos := "laws.go:671", after := #[{ on := 15, ground := Ground.data }, { on := 20, ground := Ground.data }, { on := 11, ground := Ground.guard }], guard := some (11, false) }) (v := ?_) rfl (by kernel_rfl) (by kernel_rfl) (by kernel_rfl) (fun _ _ _ h => h) (Or.inl ⟨by rfl, ?_⟩) (by assumption) ?_
      rotate_left
      · intro w hSw; (try dsimp only at hSw); go_simp <;> with_reducible rfl
      try simp only [Act.put, List.setIfInBounds_toArray, List.set_cons_zero, List.set_cons_succ]
      refine wpAnyH_take (i := 22) (oi := { dst := some 61, op := Op.pick (Operand.tmp 50) (Operand.const (Value.bool true)) (Operand.tmp 60), type := 4, pos := "laws.go:671", after := #[{ on := 11, ground := Ground.data }, { on := 21, ground := Ground.data }], guard := none }) (v := ?_) rfl (by kernel_rfl) (by kernel_rfl) (by kernel_rfl) (fun _ _ _ h => h) (Or.inl ⟨by rfl, ?_⟩) (by assumption) ?_
      rotate_left
      · intro w hSw; (try dsimp only at hSw); go_simp <;> with_reducible rfl
      try simp only [Act.put, List.setIfInBounds_toArray, List.set_cons_zero, List.set_cons_succ]
      refine wpAnyH_done (by kernel_rfl) ?_ _
      have BV := hide (below_two (unhide hb6) (unhide hHeld.1))
      have BW := hide (below_two (unhide BB) (unhide hHeld.1))
      obtain ⟨_, d0, d1, d2⟩ := hHeld
      go_wp2_with fail
      go_fit (unhide EUk' _ (unhide BW))
      rintro r V7 ⟨q7, c7, rfl, P7, hb7⟩
      clear d0 d1 d2 BB hb6 hS12 hR12
      have B67 := hide (below_two (unhide BV) hb7)
      have B7 := hide (below_two (unhide BW) hb7)
      clear hb7 BV BW
      obtain ⟨d0, d1, d2⟩ := unhide RR6 _ (unhide B67)
      replace P7 := hide P7
      go_wp2_with fail
      go_fit (in_yes LF q7 LN c7 (by omega) xid (unhide hself') _ (unhide P7))
      rintro r V8 ⟨rfl, hb8⟩
      clear d0 d1 d2
      obtain ⟨d0, d1, d2⟩ := unhide RR6 _ (below_two (unhide B67) hb8)
      replace B7 := hide (below_two (unhide B7) hb8)
      replace B67 := hide (below_two (unhide B67) hb8)
      replace P7 := hide (fun i hi => (unhide P7 i hi).next hb8)
      clear hb8
      go_wp2_with fail
      go_fit (unhide ESk' _ (unhide B7))
      rintro r V9 ⟨q9, c9, rfl, P9, hb9⟩
      clear d0 d1 d2
      replace B7 := hide (below_two (unhide B7) hb9)
      replace B67 := hide (below_two (unhide B67) hb9)
      replace P7 := hide (fun i hi => (unhide P7 i hi).next hb9)
      replace P9 := hide P9
      clear hb9
      go_wp2_with fail
      go_fit (sameInts_any LF q7 q9 LN c7 c9 (by omega) _ (unhide P7) (unhide P9))
      rintro r VA ⟨rfl, hbA⟩
      replace B7 := hide (below_two (unhide B7) hbA)
      replace B67 := hide (below_two (unhide B67) hbA)
      replace P7 := hide (fun i hi => (unhide P7 i hi).next hbA)
      clear hbA P9 ESk'
      go_wp2_with fail
      go_loopw [8] (fun i u => ∃ j : Nat, j ≤ LN ∧ i = .int .i64 (j : Int) ∧ Hid (Below VA.heap.size VA u)) (fun i _ => LN - (intOf i).toNat)
      case atStart => exact ⟨0, Nat.zero_le _, rfl, Below.refl _ _⟩
      case round =>
        obtain ⟨j, hj, rfl, BJ⟩ := hrel
        by_cases hjl : j < LN
        · have hjl' : (j : Int) < (LN : Int) := by omega
          obtain ⟨s7, o7, hq7, hz7⟩ := unhide P7 j hjl
          subst hq7
          obtain ⟨m, hm, hfm, hidm, hInP⟩ := unhide hpar' j hjl
          obtain ⟨zz, hzz⟩ : ∃ z, LF j = z := ⟨_, rfl⟩
          rw [hzz] at hz7 hfm hidm
          have ENaz := hide (unhide ENa zz m hfm)
          have hm' : (m : Int) < (n : Int) := by omega
          replace hInP := hide hInP
          have hR0 := hide (fun u (hu : Below W.heap.size W u) => (unhide NN u hu m hm).range)
          obtain ⟨yy, hyy⟩ : ∃ z, Hid (X m = z) := ⟨_, rfl⟩
          obtain ⟨ty, hty⟩ : ∃ z, Hid (A m = z) := ⟨_, rfl⟩
          rw [unhide hyy] at hInP hidm
          rw [unhide hyy, unhide hty] at hR0
          clear hyy hty hfm hzz
          go_upto_region 20 with fail
          have BB := hide (below_two (unhide B7) (unhide BJ))
          have B67 := hide (below_two (unhide B67) (unhide BJ))
          have B7 := BB
          have P7 := hide (fun i hi => (unhide P7 i hi).next (unhide BJ))
          have hR20 : Hid (∀ u, Below wr.heap.size wr u → u.rangeAt b (o + m * 31) (ndC yy ty).toList) := fun u hu => by
            obtain ⟨b', o', e, h⟩ := unhide hR0 u (below_two (unhide BB) hu)
            cases e
            exact h
          have hS20 : Hid (∀ u, Below wr.heap.size wr u → Hid (Below wr.heap.size wr u) ∧ u.cell? ⟨b3, 0, none⟩ = some (.slice (some ⟨b, o, none⟩) n c) ∧ u.cell? ⟨s7, o7 + j, none⟩ = some (.int .i64 zz)) := fun u hu => ⟨hu, (unhide RR6 _ (below_two (unhide B67) hu)).1, kc (below_two (unhide BJ) hu) hz7⟩
          replace hz7 := hide hz7
          refine wp_region_held_drew (S := (fun u => Hid (Below wr.heap.size wr u) ∧ u.cell? ⟨b3, 0, none⟩ = some (.slice (some ⟨b, o, none⟩) n c) ∧ u.cell? ⟨s7, o7 + j, none⟩ = some (.int .i64 zz))) (by kernel_rfl) ?_ (fun hHeld => ?_)
          · exact unhide hS20 _ (Below.refl _ _).drew
          generalize wr.drew = V7d at hHeld ⊢
          refine wpAnyH_take (i := 0) (oi := { dst := some 86, op := Op.fieldAddr 26 (Operand.tmp 3) 0, type := 0, pos := "laws.go:679", after := #[], guard := none }) (v := ?_) rfl (by kernel_rfl) (by kernel_rfl) (by kernel_rfl) (fun _ _ _ h => h) (Or.inl ⟨by rfl, ?_⟩) (by assumption) ?_
          rotate_left
          · intro w hSw; (try dsimp only at hSw); go_simp <;> with_reducible rfl
          try simp only [Act.put, List.setIfInBounds_toArray, List.set_cons_zero, List.set_cons_succ]
          refine wpAnyH_take (i := 1) (oi := { dst := some 87, op := Op.load 24 (Operand.tmp 86), type := 24, pos := "laws.go:679", after := #[{ on := 0, ground := Ground.data }], guard := none }) (v := ?_) rfl (by kernel_rfl) (by kernel_rfl) (by kernel_rfl) (fun _ _ _ h => h) (Or.inl ⟨by rfl, ?_⟩) (by assumption) ?_
          rotate_left
          · intro w hSw; (try dsimp only at hSw); go_simp <;> with_reducible rfl
          try simp only [Act.put, List.setIfInBounds_toArray, List.set_cons_zero, List.set_cons_succ]
          refine wpAnyH_take (i := 2) (oi := { dst := some 88, op := Op.load 26 (Operand.tmp 3), type := 26, pos := "laws.go:679", after := #[], guard := none }) (v := ?_) rfl (by kernel_rfl) (by kernel_rfl) (by kernel_rfl) (fun _ _ _ h => h) (Or.inl ⟨by rfl, ?_⟩) (by assumption) ?_
          rotate_left
          · intro w hSw; (try dsimp only at hSw); go_simp <;> with_reducible rfl
          try simp only [Act.put, List.setIfInBounds_toArray, List.set_cons_zero, List.set_cons_succ]
          refine wpAnyH_take (i := 3) (oi := { dst := some 89, op := Op.move (Operand.tmp 7), type := 28, pos := "laws.go:679", after := #[], guard := none }) (v := ?_) rfl (by kernel_rfl) (by kernel_rfl) (by kernel_rfl) (fun _ _ _ h => h) (Or.inl ⟨by rfl, ?_⟩) (by assumption) ?_
          rotate_left
          · intro w hSw; (try dsimp only at hSw); go_simp <;> with_reducible rfl
          try simp only [Act.put, List.setIfInBounds_toArray, List.set_cons_zero, List.set_cons_succ]
          refine wpAnyH_take (i := 4) (oi := { dst := some 90, op := Op.move (Operand.tmp 8), type := 3, pos := "laws.go:679", after := #[], guard := none }) (v := ?_) rfl (by kernel_rfl) (by kernel_rfl) (by kernel_rfl) (fun _ _ _ h => h) (Or.inl ⟨by rfl, ?_⟩) (by assumption) ?_
          rotate_left
          · intro w hSw; (try dsimp only at hSw); go_simp <;> with_reducible rfl
          try simp only [Act.put, List.setIfInBounds_toArray, List.set_cons_zero, List.set_cons_succ]
          refine wpAnyH_take (i := 5) (oi := { dst := some 91, op := Op.indexAddr 28 (Operand.tmp 89) (Operand.tmp 90), type := 0, pos := "laws.go:679", after := #[{ on := 3, ground := Ground.data }, { on := 4, ground := Ground.data }], guard := none }) (v := ?_) rfl (by kernel_rfl) (by kernel_rfl) (by kernel_rfl) (fun _ _ _ h => h) (Or.inl ⟨by rfl, ?_⟩) (by assumption) ?_
          rotate_left
          · intro w hSw; (try dsimp only at hSw); go_simp <;> with_reducible rfl
          try simp only [Act.put, List.setIfInBounds_toArray, List.set_cons_zero, List.set_cons_succ]
          refine wpAnyH_take (i := 6) (oi := { dst := some 92, op := Op.load 3 (Operand.tmp 91), type := 3, pos := "laws.go:679", after := #[{ on := 5, ground := Ground.data }], guard := none }) (v := ?_) rfl (by kernel_rfl) (by kernel_rfl) (by kernel_rfl) (fun _ _ _ h => h) (Or.inl ⟨by rfl, ?_⟩) (by assumption) ?_
          rotate_left
          · intro w hSw; (try dsimp only at hSw); go_simp <;> with_reducible rfl
          try simp only [Act.put, List.setIfInBounds_toArray, List.set_cons_zero, List.set_cons_succ]
          refine wpAnyH_ready (rs := [7, 10]) (by kernel_rfl) (by simp) ?_
          refine AllReadyH.cons (o := { dst := some 93, op := Op.call { callee := Callee.value (Operand.func 12), args := #[Operand.tmp 88, Operand.tmp 92], argTypes := #[26, 3] }, type := 3, pos := "laws.go:679", after := #[{ on := 2, ground := Ground.data }, { on := 6, ground := Ground.data }], guard := none }) rfl (fun K hK => ?_) ?_
          · go_simp
            go_at_call 12
            go_fit (unhide ENaz _ (below_two (unhide BB) (unhide hHeld.1)))
            rintro r w8 ⟨rfl, hb8⟩
            refine hK.out _ _ ?_ (fun hHeld => ?_)
            · exact unhide hS20 _ (below_two (unhide hHeld.1) hb8)
            clear hK K hb8
            try simp only [Act.put, List.setIfInBounds_toArray, List.set_cons_zero, List.set_cons_succ]
            refine wpAnyH_take (i := 8) (oi := { dst := some 94, op := Op.indexAddr 24 (Operand.tmp 87) (Operand.tmp 93), type := 0, pos := "laws.go:679", after := #[{ on := 1, ground := Ground.data }, { on := 7, ground := Ground.data }], guard := none }) (v := ?_) rfl (by kernel_rfl) (by kernel_rfl) (by kernel_rfl) (fun _ _ _ h => h) (Or.inl ⟨by rfl, ?_⟩) (by assumption) ?_
            rotate_left
            · intro w hSw; (try dsimp only at hSw); go_simp <;> with_reducible rfl
            try simp only [Act.put, List.setIfInBounds_toArray, List.set_cons_zero, List.set_cons_succ]
            refine wpAnyH_take (i := 9) (oi := { dst := some 95, op := Op.load 43 (Operand.tmp 94), type := 43, pos := "laws.go:679", after := #[{ on := 8, ground := Ground.data }], guard := none }) (v := .agg (ndC yy ty)) rfl (by kernel_rfl) (by kernel_rfl) (by kernel_rfl) (fun _ _ _ h => h) (yields_inode rfl _ rfl b (o + m * 31) rfl yy ty (fun u hu => unhide hR20 u (unhide hu.1))) (by assumption) ?_
            try simp only [Act.put, List.setIfInBounds_toArray, List.set_cons_zero, List.set_cons_succ]
            refine wpAnyH_ready (rs := [10]) (by kernel_rfl) (by simp) ?_
            refine AllReadyH.cons (o := { dst := some 9, op := Op.alloc 43, type := 0, pos := "laws.go:679", after := #[], guard := none }) rfl (fun K hK => ?_) ?_
            · have hHeld' := hHeld
              refine step_alloc_node rfl rfl (fun Z hZ => ?_)
              refine hK.out _ _ ?_ (fun hHeld => ?_)
              · exact unhide hS20 _ (below_two (unhide hHeld.1) (al1_below _ _))
              clear hK K
              try simp only [Act.put, List.setIfInBounds_toArray, List.set_cons_zero, List.set_cons_succ]
              have RZ := hide (new_row w8 (.cells Z 43))
              have lz := hide (show wr.heap.size ≤ w8.heap.size from (unhide hHeld'.1).size)
              generalize w8.alloc (.cells Z 43) = V8 at RZ hHeld ⊢
              generalize w8.heap.size = b9 at RZ lz ⊢
              refine wpAnyH_ready (rs := [11]) (by kernel_rfl) (by simp) ?_
              refine AllReadyH.cons (o := { dst := none, op := Op.store 43 (Operand.tmp 9) (Operand.tmp 95), type := 0, pos := "laws.go:679", after := #[{ on := 10, ground := Ground.data }, { on := 9, ground := Ground.data }, { on := 7, ground := Ground.chain }, { on := 0, ground := Ground.phase }, { on := 1, ground := Ground.phase }, { on := 2, ground := Ground.phase }, { on := 3, ground := Ground.phase }, { on := 4, ground := Ground.phase }, { on := 5, ground := Ground.phase }, { on := 6, ground := Ground.phase }, { on := 7, ground := Ground.phase }, { on := 8, ground := Ground.phase }, { on := 9, ground := Ground.phase }, { on := 10, ground := Ground.phase }], guard := none }) rfl (fun K hK => ?_) ?_
              · have hHeld' := hHeld
                refine step_store_node rfl _ _ rfl rfl rfl (unhide RZ) hZ ?_
                refine hK.out _ _ ?_ (fun hHeld => ?_)
                · exact unhide hS20 _ (below_setRow (unhide hHeld'.1) (unhide lz) _)
                clear hK K
                try simp only [Act.put]
                refine wpAnyH_done (by kernel_rfl) ?_ _
                have RY := hide (setRow_row (C := ndC yy ty) (unhide RZ))
                have BY := hide (unhide hHeld.1)
                generalize World.setRow _ _ _ = V9 at RY BY ⊢
                obtain ⟨y0, y1⟩ := nd_heads (unhide RY)
                have x0 := (unhide RR6 _ (below_two (unhide B67) (unhide BY))).2.1
                by_cases he : yy.id = xid
                · have BZ := hide (below_two (unhide BJ) (unhide BY))
                  go_wp2_with fail
                  go_roundw
                  case rel => exact ⟨j + 1, by omega, by go_num, BZ⟩
                  case measure => simp [intOf]; omega
                · have HIN := hide (unhide hInP he)
                  go_wp2_with fail
                  go_fit (in_yes LF (some ⟨s7, o7, none⟩) LN c7 (by omega) yy.par (unhide HIN) _ (fun i hi => (unhide P7 i hi).next (unhide BY)))
                  rintro r wq ⟨rfl, hbq⟩
                  have BZ := hide (below_two (below_two (unhide BJ) (unhide BY)) hbq)
                  go_wp2_with fail
                  go_roundw
                  case rel => exact ⟨j + 1, by omega, by go_num, BZ⟩
                  case measure => simp [intOf]; omega
              exact AllReadyH.nil
            exact AllReadyH.nil
          refine AllReadyH.cons (o := { dst := some 9, op := Op.alloc 43, type := 0, pos := "laws.go:679", after := #[], guard := none }) rfl (fun K hK => ?_) ?_
          · have hHeld' := hHeld
            refine step_alloc_node rfl rfl (fun Z hZ => ?_)
            refine hK.out _ _ ?_ (fun hHeld => ?_)
            · exact unhide hS20 _ (below_two (unhide hHeld.1) (al1_below _ _))
            clear hK K
            try simp only [Act.put, List.setIfInBounds_toArray, List.set_cons_zero, List.set_cons_succ]
            have RZ := hide (new_row V7d (.cells Z 43))
            have lz := hide (show wr.heap.size ≤ V7d.heap.size from (unhide hHeld'.1).size)
            generalize V7d.alloc (.cells Z 43) = V8 at RZ hHeld ⊢
            generalize V7d.heap.size = b9 at RZ lz ⊢
            refine wpAnyH_ready (rs := [7]) (by kernel_rfl) (by simp) ?_
            refine AllReadyH.cons (o := { dst := some 93, op := Op.call { callee := Callee.value (Operand.func 12), args := #[Operand.tmp 88, Operand.tmp 92], argTypes := #[26, 3] }, type := 3, pos := "laws.go:679", after := #[{ on := 2, ground := Ground.data }, { on := 6, ground := Ground.data }], guard := none }) rfl (fun K hK => ?_) ?_
            · go_simp
              go_at_call 12
              go_fit (unhide ENaz _ (below_two (unhide BB) (unhide hHeld.1)))
              rintro r w8 ⟨rfl, hb8⟩
              refine hK.out _ _ ?_ (fun hHeld => ?_)
              · exact unhide hS20 _ (below_two (unhide hHeld.1) hb8)
              replace RZ := hide (row_next hb8 (unhide RZ))
              clear hK K hb8
              try simp only [Act.put, List.setIfInBounds_toArray, List.set_cons_zero, List.set_cons_succ]
              refine wpAnyH_take (i := 8) (oi := { dst := some 94, op := Op.indexAddr 24 (Operand.tmp 87) (Operand.tmp 93), type := 0, pos := "laws.go:679", after := #[{ on := 1, ground := Ground.data }, { on := 7, ground := Ground.data }], guard := none }) (v := ?_) rfl (by kernel_rfl) (by kernel_rfl) (by kernel_rfl) (fun _ _ _ h => h) (Or.inl ⟨by rfl, ?_⟩) (by assumption) ?_
              rotate_left
              · intro w hSw; (try dsimp only at hSw); go_simp <;> with_reducible rfl
              try simp only [Act.put, List.setIfInBounds_toArray, List.set_cons_zero, List.set_cons_succ]
              refine wpAnyH_take (i := 9) (oi := { dst := some 95, op := Op.load 43 (Operand.tmp 94), type := 43, pos := "laws.go:679", after := #[{ on := 8, ground := Ground.data }], guard := none }) (v := .agg (ndC yy ty)) rfl (by kernel_rfl) (by kernel_rfl) (by kernel_rfl) (fun _ _ _ h => h) (yields_inode rfl _ rfl b (o + m * 31) rfl yy ty (fun u hu => unhide hR20 u (unhide hu.1))) (by assumption) ?_
              try simp only [Act.put, List.setIfInBounds_toArray, List.set_cons_zero, List.set_cons_succ]
              refine wpAnyH_ready (rs := [11]) (by kernel_rfl) (by simp) ?_
              refine AllReadyH.cons (o := { dst := none, op := Op.store 43 (Operand.tmp 9) (Operand.tmp 95), type := 0, pos := "laws.go:679", after := #[{ on := 10, ground := Ground.data }, { on := 9, ground := Ground.data }, { on := 7, ground := Ground.chain }, { on := 0, ground := Ground.phase }, { on := 1, ground := Ground.phase }, { on := 2, ground := Ground.phase }, { on := 3, ground := Ground.phase }, { on := 4, ground := Ground.phase }, { on := 5, ground := Ground.phase }, { on := 6, ground := Ground.phase }, { on := 7, ground := Ground.phase }, { on := 8, ground := Ground.phase }, { on := 9, ground := Ground.phase }, { on := 10, ground := Ground.phase }], guard := none }) rfl (fun K hK => ?_) ?_
              · have hHeld' := hHeld
                refine step_store_node rfl _ _ rfl rfl rfl (unhide RZ) hZ ?_
                refine hK.out _ _ ?_ (fun hHeld => ?_)
                · exact unhide hS20 _ (below_setRow (unhide hHeld'.1) (unhide lz) _)
                clear hK K
                try simp only [Act.put]
                refine wpAnyH_done (by kernel_rfl) ?_ _
                have RY := hide (setRow_row (C := ndC yy ty) (unhide RZ))
                have BY := hide (unhide hHeld.1)
                generalize World.setRow _ _ _ = V9 at RY BY ⊢
                obtain ⟨y0, y1⟩ := nd_heads (unhide RY)
                have x0 := (unhide RR6 _ (below_two (unhide B67) (unhide BY))).2.1
                by_cases he : yy.id = xid
                · have BZ := hide (below_two (unhide BJ) (unhide BY))
                  go_wp2_with fail
                  go_roundw
                  case rel => exact ⟨j + 1, by omega, by go_num, BZ⟩
                  case measure => simp [intOf]; omega
                · have HIN := hide (unhide hInP he)
                  go_wp2_with fail
                  go_fit (in_yes LF (some ⟨s7, o7, none⟩) LN c7 (by omega) yy.par (unhide HIN) _ (fun i hi => (unhide P7 i hi).next (unhide BY)))
                  rintro r wq ⟨rfl, hbq⟩
                  have BZ := hide (below_two (below_two (unhide BJ) (unhide BY)) hbq)
                  go_wp2_with fail
                  go_roundw
                  case rel => exact ⟨j + 1, by omega, by go_num, BZ⟩
                  case measure => simp [intOf]; omega
              exact AllReadyH.nil
            exact AllReadyH.nil
          exact AllReadyH.nil
        · have hje : j = LN := by omega
          subst hje
          have hjl' : ¬ (j : Int) < (j : Int) := by omega
          have BZ := hide (below_two (unhide B7) (unhide BJ))
          go_wp2_with fail
          go_roundw
          case rel => exact ⟨k + 1, by omega, by first | rfl | go_num, by go_num, BZ⟩
          case measure => simp [intOf]; omega
    · have hke : k = n := by omega
      subst hke
      have hlt' : ¬ (k : Int) < (k : Int) := by omega
      rw [unhide hTn]
      go_wp2_with fail
      go_fit (unhide ED0 _ (unhide BB))
      rintro r w6 ⟨rfl, hb6⟩
      clear cc
      have cc := unhide RR _ (below_two (unhide BB) hb6)
      go_wp2_with fail
      go_fit (unhide ED98 _ (below_two (unhide BB) hb6))
      rintro r w7 ⟨rfl, hb7⟩
      clear cc
      have cc := unhide RR _ (below_two (below_two (unhide BB) hb6) hb7)
      go_wp2_with fail
      go_fit (unhide EU98 _ (below_two (below_two (unhide BB) hb6) hb7))
      rintro r w8 ⟨q8, c8, rfl, hb8⟩
      go_wp2_with fail
      go_ret
      exact ⟨rfl, below_two (unhide HB) (below_two (below_two (below_two (unhide BB) hb6) hb7) hb8)⟩
end Go.Proofs.Ythelfgippiimiab
