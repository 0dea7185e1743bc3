/-
  CreatesL · SetsL: texts of one claim, in one.
-/
import Derived.Test.YtmafopckplpajaaGreatDoorFnSetsM8
import Derived.Test.YtmafopckplpajaaGreatDoorFnSetsM14
import Derived.Test.YtmafopckplpajaaGreatDoorFnSetsM12
import Derived.Test.YtmafopckplpajaaGreatDoorFnSetsM9
import Derived.Deep.RegionHeld3
import Derived.Deep.DeepCutAuto
import Derived.Deep.DeepFit
import Derived.Test.YtmafopckplpajaaGreatDoorFnSetsM11
import Derived.Test.YtmafopckplpajaaGreatDoorFnSetsM10

/-
  FnCreates: a node that is put into a drawn scene is there; what is refused changes nothing; dropped it is gone, with all below it, and all else stays. (By createslaw.py.)
-/
namespace Go.Proofs.YtmafopckplpajaaGreatDoor
open Go.RowKit
set_option linter.unusedVariables false

theorem right_small {X : Nat → Nd} {n : Nat} (hS : ScOk X n) : ∀ i, i < n → (X i).Small := fun i hi => node_small (okAt_iff.1 (hS.2 i hi)).1
theorem right_wf {X : Nat → Nd} {n : Nat} (hS : ScOk X n) : Wf X n :=
  ⟨fun i hi => WalkArith.wf_i64 (by have := (node_ids (okAt_iff.1 (hS.2 i hi)).1).1; omega), fun i hi => WalkArith.wf_i64 (by have := (node_ids (okAt_iff.1 (hS.2 i hi)).1).2.1; omega)⟩
theorem ok_call (X : Nat → Nd) (A : Nat → Na) (ao : Option Addr) (n cp : Nat) (hS : ScOk X n) (w : World) (P : ∀ i, i < n → NrAt w ao i (X i) (A i)) :
    Calls Tryz.prog 14 #[.agg #[.slice ao n cp]] w fun r w' => r = .returned (.bool true) ∧ Below w.heap.size w w' :=
  (implSceneOk_any X A ao n cp (by have := hS.1; omega) (right_small hS) (right_wf hS).id (right_wf hS).par w P).mono fun r w' h => by rw [sceneOk_iff.2 hS] at h; exact h
def zx : Nd := ⟨0, 0, false, 0, 0, 0, 0, 0, 0, 0, fun _ => 0, 0, fun _ => (0, 0), false, 0, 0, fun _ => 0, ⟨0, ⟨0, 0, 0, 0⟩, ⟨0, 0, 0, 0⟩, 0, 0, 0, 0⟩, 0, 0, 0, fun _ => 0, 0, fun _ => (0, 0)⟩
theorem zx_small : zx.Small := ⟨by decide, by decide, by decide, by decide, by decide⟩
theorem zx_in (w : World) : NdIn w zx na0 := ⟨fun i hi => absurd hi (Nat.not_lt_zero _), fun i hi => absurd hi (Nat.not_lt_zero _), fun i hi => absurd hi (Nat.not_lt_zero _), fun i hi => absurd hi (Nat.not_lt_zero _), fun i hi => absurd hi (Nat.not_lt_zero _)⟩
theorem zx_caps : Caps zx na0 := ⟨⟨Nat.le_refl _, fun _ => rfl⟩, ⟨Nat.le_refl _, fun _ => rfl⟩, ⟨Nat.le_refl _, fun _ => rfl⟩, ⟨Nat.le_refl _, fun _ => rfl⟩, ⟨Nat.le_refl _, fun _ => rfl⟩⟩
theorem zx_bad : nodeOkB zx = false := by
  cases h : nodeOkB zx with
  | false => rfl
  | true => have := (node_ids h).1.1; exact absurd this (by decide)

set_option maxHeartbeats 16000000 in
set_option maxRecDepth 100000 in
theorem fnCreates_walk (a0 : Option Addr) (len0 cap0 : Nat) (z0 : List Int) (w : World) (w0 : IsRow .u8 w a0 len0 cap0 z0) (hg : ErrT w) :
    Calls Tryz.prog 3 #[.slice a0 len0 cap0] w fun e w' => e = .returned (.bool true) ∧ Below w.heap.size w w' := by
  by_cases hl : len0 ≤ 1048576
  rotate_left
  · go_enter Tryz.func3, Tryz.ntmps3
    go_wp2_with (go_at_call 9; go_must (refine (big_yes a0 len0 cap0 hl _).mono ?_); rintro e w1 ⟨rfl, rfl⟩)
    go_ret
    exact ⟨rfl, Below.refl _ _⟩
  have HI := hide (InB.of_row w0)
  replace hg := hide hg
  clear w0
  go_enter Tryz.func3, Tryz.ntmps3
  go_wp2_with fail
  refine (big_no a0 len0 cap0 hl _).mono ?_
  rintro e w1 ⟨rfl, hw⟩
  rw [hw]
  clear hw w1
  go_wp2_with fail
  refine (drawScene_any a0 len0 cap0 _ hl (unhide HI)).mono ?_
  rintro e w2 ⟨⟨n, p, c, X, A, rfl, hn5, hnc, hS, hN, hid⟩, hb⟩
  go_upto_region 4 with fail
  have R3 := hide (new_row w2 (.cells #[.slice p n c] 26))
  have HB := hide (below_two hb (al1_below w2 (.cells #[.slice p n c] 26)))
  replace hN := hide (fun i hi => (hN i hi).next (al1_below w2 (.cells #[.slice p n c] 26)))
  replace hS := hide hS
  replace hid := hide hid
  replace hnc := hide hnc
  clear hb
  generalize w2.alloc (.cells #[.slice p n c] 26) = W at R3 HB hN ⊢
  generalize w2.heap.size = b3 at R3 ⊢
  go_wp2_with fail
  go_fit (drawNode_any a0 len0 cap0 _ hl ((unhide HI).next (unhide HB)))
  rintro r w3 ⟨⟨x, s, rfl, hx, hok, hxi⟩, hb⟩
  clear hxi
  go_upto_region 5 with (refine store_new rfl _ _ rfl _ x s rfl rfl rfl ?_)
  have R4 := hide (new_row w3 (.cells (ndC x s) 41))
  have bV := hide (below_two hb (al1_below w3 (.cells (ndC x s) 41)))
  have hxN := hide ((hx.next (al1_below w3 (.cells (ndC x s) 41))).inn)
  have hxc := hide hx.caps
  replace R3 := hide (row_next (unhide bV) (unhide R3))
  replace hN := hide (fun i hi => (unhide hN i hi).next (unhide bV))
  replace HB := hide (below_two (unhide HB) (unhide bV))
  clear hb hx bV HI
  generalize w3.alloc (.cells (ndC x s) 41) = V at R3 R4 HB hN hxN ⊢
  generalize w3.heap.size = b4 at R4 ⊢
  have RR := hide (fun u (hu : Below V.heap.size V u) => row1 (row_next hu (unhide R3)))
  have R4N := hide (fun u (hu : Below V.heap.size V u) => row_next hu (unhide R4))
  have NN := hide (fun u (hu : Below V.heap.size V u) i hi => (unhide hN i hi).next hu)
  have ET := hide (fun u (hu : Below V.heap.size V u) => (unhide hg).next (below_two (unhide HB) hu))
  have hn : n ≤ 1048576 := by omega
  have hsm := hide (right_small (unhide hS))
  have hwf := hide (right_wf (unhide hS))
  have hxs := hide (node_small hok)
  have w1 : (Lit.int .i64 x.id).wf = true := WalkArith.wf_i64 (by have := (node_ids hok).1; omega)
  have w2 : (Lit.int .i64 x.par).wf = true := WalkArith.wf_i64 (by have := (node_ids hok).2.1; omega)
  replace hok := hide hok
  have E1 := hide (fun u (hu : Below V.heap.size V u) => implCreateNode_any X A p n c hn (unhide hnc).1 (unhide hnc).2.1 (unhide hsm) (unhide hnc).2.2 (unhide hwf) x s (unhide hxs) (unhide hxc) w1 w2 u (unhide NN u hu) ((unhide hxN).next hu) (unhide ET u hu))
  have E2 := hide (fun u (hu : Below V.heap.size V u) => specCreateNode_any X A p n c hn (unhide hsm) (unhide hnc).2.2 x s (unhide hxs) (unhide hxc) u (unhide NN u hu) ((unhide hxN).next hu))
  have ED := hide (fun k (hk : k < n) u (hu : Below V.heap.size V u) => (implDropNode_any X A p n c hn (unhide hnc).1 (unhide hnc).2.1 (unhide hsm) (unhide hnc).2.2 (unhide hwf) (X k).id ((unhide hwf).id k hk) u (unhide NN u hu) (unhide ET u hu)).mono fun r w' h => show ChRes u r w' 0 (dropN X n (X k).id) (dropX X n (X k).id) by rw [(drop_one (unhide hS) hk).1] at h; exact h)
  have EU := hide (fun z u (hu : Below V.heap.size V u) => (specUnderOf_any X A p n c hn z u (unhide NN u hu)).mono fun r w' h => ids_len h)
  have ED98 := hide (fun u (hu : Below V.heap.size V u) => (implDropNode_any X A p n c hn (unhide hnc).1 (unhide hnc).2.1 (unhide hsm) (unhide hnc).2.2 (unhide hwf) 98 (WalkArith.wf_i64 (by omega)) u (unhide NN u hu) (unhide ET u hu)).mono fun r w' h => show ChRes u r w' 2 n X by
    obtain ⟨e0, e1, e2⟩ := drop_no (c := 2) (change_none (unhide hS) (by rw [first_none (X := X) (id := 98) (n := n) (fun j hj e => by have := unhide hid j hj; omega)]; decide)) (by decide)
    rw [e0, e1, e2] at h
    exact h)
  have EZ := hide (fun u (hu : Below V.heap.size V u) => show Calls Tryz.prog 12 #[.agg #[.slice p n c], .agg #[.int .i64 0, .int .i64 0, .bool false, .int .i64 0, .int .i64 0, .int .i64 0, .int .i64 0, .int .i64 0, .int .i64 0, .slice none 0 0, .slice none 0 0, .bool false, .int .i64 0, .slice none 0 0, .int .i64 0, .int .i64 0, .int .i64 0, .int .i64 0, .int .i64 0, .int .i64 0, .int .i64 0, .int .i64 0, .int .i64 0, .int .i64 0, .int .i64 0, .int .i64 0, .int .i64 0, .int .i64 0, .int .i64 0, .slice none 0 0, .slice none 0 0]] u (fun r w' => ChRes u r w' 1 n X) from (implCreateNode_any X A p n c hn (unhide hnc).1 (unhide hnc).2.1 (unhide hsm) (unhide hnc).2.2 (unhide hwf) zx na0 zx_small zx_caps (WalkArith.wf_i64 (by decide)) (WalkArith.wf_i64 (by decide)) u (unhide NN u hu) (zx_in u) (unhide ET u hu)).mono fun r w' h => by
    obtain ⟨e0, e1, e2⟩ := create_no (c := 1) (create_bad (X := X) (n := n) zx_bad) (by decide)
    rw [e0, e1, e2] at h
    exact h)
  have hsm2 := hsm
  clear hN hxc hsm hwf w1 w2 hid
  -- the program's and the specification's answers
  have cc := unhide RR _ (Below.refl _ _)
  go_wp2_with (with_reducible refine load_own rfl _ rfl b4 rfl x s 41 (unhide R4) ?_)
  go_fit (unhide E1 _ (Below.refl _ _))
  rintro r u1 ⟨pa, ca, A1, rfl, SG1, hb1⟩
  clear cc E1
  go_upto_region 6 with fail
  have R5 := hide (new_row u1 (.cells #[.slice pa (createN X n x) ca] 26))
  have BB := hide (below_two hb1 (al1_below u1 (.cells #[.slice pa (createN X n x) ca] 26)))
  replace SG1 := hide (SG1.next (al1_below u1 (.cells #[.slice pa (createN X n x) ca] 26)))
  clear hb1
  generalize u1.alloc (.cells #[.slice pa (createN X n x) ca] 26) = U1 at R5 BB SG1 ⊢
  generalize u1.heap.size = b5 at R5 ⊢
  have cc := unhide RR _ (unhide BB)
  go_wp2_with (with_reducible refine load_own rfl _ rfl b4 rfl x s 41 (unhide R4N _ (unhide BB)) ?_)
  go_fit (unhide E2 _ (unhide BB))
  rintro r u2 ⟨pb, cb, A2, rfl, _, hb2⟩
  clear cc E2
  go_upto_region 7 with fail
  have b2' := hide (below_two hb2 (al1_below u2 (.cells #[.slice pb (createN X n x) cb] 26)))
  replace R5 := hide (row_next (unhide b2') (unhide R5))
  replace SG1 := hide ((unhide SG1).next (unhide b2'))
  replace BB := hide (below_two (unhide BB) (unhide b2'))
  clear hb2 b2'
  generalize u2.alloc (.cells #[.slice pb (createN X n x) cb] 26) = U at R5 BB SG1 ⊢
  generalize u2.heap.size = b7
  by_cases hcc : createC X n x = 0
  · obtain ⟨_, e1, e2⟩ := create_yes hcc
    rw [e1, e2] at SG1
    rw [e1] at R5
    rw [hcc]
    have hSa := hide (scOk_create hcc)
    have hcd := hide (create_drop hcc)
    clear hcc e1 e2
    obtain ⟨m, hm⟩ : ∃ m, Hid (m = n + 1) := ⟨_, rfl⟩
    rw [← unhide hm] at SG1 R5 hSa hcd
    obtain ⟨Y, hY⟩ : ∃ Y, Hid (Y = upd X n x) := ⟨_, rfl⟩
    rw [← unhide hY] at SG1 hSa hcd
    have hnm : (n : Int) < (m : Int) := by have := unhide hm; omega
    have hms : IntKind.i64.wrap ((m : Int) - 1) = (n : Int) := by have := unhide hm; rw [IntWalk.i64_in _ (by omega)]; omega
    have F := hide (ok_call Y A1 pa m ca (unhide hSa) U (unhide SG1).nodes)
    have EDa := hide (fun u (hu : Below U.heap.size U u) => (implDropNode_any Y A1 pa m ca (by have := (unhide hSa).1; omega) (unhide SG1).cap.1 (unhide SG1).cap.2 (right_small (unhide hSa)) (unhide SG1).caps (right_wf (unhide hSa)) x.id (WalkArith.wf_i64 (by have := (node_ids (unhide hok)).1; omega)) u (fun i hi => ((unhide SG1).nodes i hi).next hu) (unhide ET u (below_two (unhide BB) hu))).mono fun r w' h => show ∃ (pd : Option Addr) (cd : Nat) (A9 : Nat → Na), r = .returned (.tuple #[.agg #[.slice pd n cd], .int .i64 0]) ∧ (∀ i, i < n → NrAt w' pd i (X i) (A9 i)) ∧ Below u.heap.size u w' by
      obtain ⟨e0, e1, e2⟩ := unhide hcd
      rw [e0, e1] at h
      obtain ⟨pd, cd, A9, h1, h2, h3⟩ := h
      exact ⟨pd, cd, A9, h1, fun i hi => by rw [← e2 i hi]; exact h2.nodes i hi, h3⟩)
    obtain ⟨ys, y1, _⟩ := (unhide SG1).row
    obtain ⟨ga, c', e, _, _⟩ := own_at y1 (by omega : 0 < m)
    cases e
    have NA := hide (show NrAt U (some ⟨ga, 0, none⟩) n x (A1 n) by have h := (unhide SG1).nodes n (by omega); rwa [unhide hY, upd_at] at h)
    obtain ⟨s1, hs1⟩ : ∃ t, Hid (t = A1 n) := ⟨_, rfl⟩
    rw [← unhide hs1] at NA
    clear y1 SG1 hSa hcd hY hm hs1
    have cc := unhide RR _ (unhide BB)
    have d5 := row1 (unhide R5)
    go_wp2_with fail
    go_fit (unhide F)
    rintro r u3 ⟨rfl, hb⟩
    replace R5 := hide (row_next hb (unhide R5))
    replace NA := hide ((unhide NA).next hb)
    replace EDa := hide (fun u (hu : Below u3.heap.size u3 u) => unhide EDa u (below_two hb hu))
    replace BB := hide (below_two (unhide BB) hb)
    clear cc d5 hb F
    have cc := unhide RR _ (unhide BB)
    have d5 := row1 (unhide R5)
    have d4 := (nd_heads (unhide R4N _ (unhide BB))).1
    go_wp2_with fail
    go_fit (unhide EDa _ (Below.refl _ _))
    rintro r u4 ⟨pd, cd, A9, rfl, hN9, hb⟩
    clear cc d5 d4 EDa
    go_upto_region 11 with fail
    have R9 := hide (new_row u4 (.cells #[.slice pd n cd] 26))
    have b9' := hide (below_two hb (al1_below u4 (.cells #[.slice pd n cd] 26)))
    replace hN9 := hide (fun i hi => (hN9 i hi).next (al1_below u4 (.cells #[.slice pd n cd] 26)))
    replace R5 := hide (row_next (unhide b9') (unhide R5))
    replace NA := hide ((unhide NA).next (unhide b9'))
    replace BB := hide (below_two (unhide BB) (unhide b9'))
    clear hb b9'
    generalize u4.alloc (.cells #[.slice pd n cd] 26) = U at R5 R9 BB NA hN9 ⊢
    generalize u4.heap.size = b9 at R9 ⊢
    have EN := hide (fun u (hu : Below U.heap.size U u) => sameNode_same x s1 s (unhide hxs) u (((unhide NA).next hu).inn) ((unhide hxN).next (below_two (unhide BB) hu)))
    have ESc := hide (fun u (hu : Below U.heap.size U u) => sameScene_same X A9 A pd p n cd c hn (unhide hsm2) u (fun i hi => (unhide hN9 i hi).next hu) (unhide NN u (below_two (unhide BB) hu)))
    have hS11 := hide (fun u (hu : Below U.heap.size U u) => show Hid (Below U.heap.size U u) ∧ u.cell? ⟨b3, 0, none⟩ = some (.slice p n c) ∧ u.cell? ⟨b5, 0, none⟩ = some (.slice (some ⟨ga, 0, none⟩) m ca) ∧ u.cell? ⟨b9, 0, none⟩ = some (.slice pd n cd) from ⟨hu, unhide RR _ (below_two (unhide BB) hu), row1 (row_next hu (unhide R5)), row1 (row_next hu (unhide R9))⟩)
    have hR11 := hide (fun u (hu : Below U.heap.size U u) => show u.rangeAt ga (n * 31) (ndC x s1).toList by
      obtain ⟨b', o', e, h⟩ := ((unhide NA).next hu).range
      cases e
      rwa [Nat.zero_add] at h)
    have hR12 := hide (fun u (hu : Below U.heap.size U u) => nd_rng (unhide R4N u (below_two (unhide BB) hu)))
    clear hN9
    refine wp_region_held_drew (S := (fun u => Hid (Below U.heap.size U u) ∧ u.cell? ⟨b3, 0, none⟩ = some (.slice p n c) ∧ u.cell? ⟨b5, 0, none⟩ = some (.slice (some ⟨ga, 0, none⟩) m ca) ∧ u.cell? ⟨b9, 0, none⟩ = some (.slice pd n cd))) (by kernel_rfl) ?_ (fun hHeld => ?_)
    · exact unhide hS11 _ (Below.refl _ _).drew
    refine wpAnyH_take (i := 0) (oi := { dst := some 65, op := Op.fieldAddr 26 (Operand.tmp 5) 0, type := 0, pos := "laws.go:702", after := #[], guard := none }) (v := ?_) rfl (by kernel_rfl) (by kernel_rfl) (by kernel_rfl) (fun _ _ _ h => h) (Or.inl ⟨by rfl, ?_⟩) (by assumption) ?_
    rotate_left
    · intro w hSw; (try dsimp only at hSw); go_simp <;> with_reducible rfl
    try simp only [Act.put, List.setIfInBounds_toArray, List.set_cons_zero, List.set_cons_succ]
    refine wpAnyH_take (i := 1) (oi := { dst := some 66, op := Op.load 24 (Operand.tmp 65), type := 24, pos := "laws.go:702", after := #[{ on := 0, ground := Ground.data }], guard := none }) (v := ?_) rfl (by kernel_rfl) (by kernel_rfl) (by kernel_rfl) (fun _ _ _ h => h) (Or.inl ⟨by rfl, ?_⟩) (by assumption) ?_
    rotate_left
    · intro w hSw; (try dsimp only at hSw); go_simp <;> with_reducible rfl
    try simp only [Act.put, List.setIfInBounds_toArray, List.set_cons_zero, List.set_cons_succ]
    refine wpAnyH_take (i := 2) (oi := { dst := some 67, op := Op.fieldAddr 26 (Operand.tmp 5) 0, type := 0, pos := "laws.go:702", after := #[], guard := none }) (v := ?_) rfl (by kernel_rfl) (by kernel_rfl) (by kernel_rfl) (fun _ _ _ h => h) (Or.inl ⟨by rfl, ?_⟩) (by assumption) ?_
    rotate_left
    · intro w hSw; (try dsimp only at hSw); go_simp <;> with_reducible rfl
    try simp only [Act.put, List.setIfInBounds_toArray, List.set_cons_zero, List.set_cons_succ]
    refine wpAnyH_take (i := 3) (oi := { dst := some 68, op := Op.load 24 (Operand.tmp 67), type := 24, pos := "laws.go:702", after := #[{ on := 2, ground := Ground.data }], guard := none }) (v := ?_) rfl (by kernel_rfl) (by kernel_rfl) (by kernel_rfl) (fun _ _ _ h => h) (Or.inl ⟨by rfl, ?_⟩) (by assumption) ?_
    rotate_left
    · intro w hSw; (try dsimp only at hSw); go_simp <;> with_reducible rfl
    try simp only [Act.put, List.setIfInBounds_toArray, List.set_cons_zero, List.set_cons_succ]
    refine wpAnyH_take (i := 4) (oi := { dst := some 69, op := Op.call { callee := Callee.builtin Builtin.len, args := #[Operand.tmp 68], argTypes := #[24] }, type := 3, pos := "laws.go:702", after := #[{ on := 3, ground := Ground.data }], guard := none }) (v := ?_) rfl (by kernel_rfl) (by kernel_rfl) (by kernel_rfl) (fun _ _ _ h => h) (Or.inl ⟨by rfl, ?_⟩) (by assumption) ?_
    rotate_left
    · intro w hSw; (try dsimp only at hSw); go_simp <;> with_reducible rfl
    try simp only [Act.put, List.setIfInBounds_toArray, List.set_cons_zero, List.set_cons_succ]
    refine wpAnyH_take (i := 5) (oi := { dst := some 70, op := Op.binOp BinOp.sub 3 (Operand.tmp 69) (Operand.const (Value.int IntKind.i64 1)) 3, type := 3, pos := "laws.go:702", after := #[{ on := 4, ground := Ground.data }], guard := none }) (v := ?_) rfl (by kernel_rfl) (by kernel_rfl) (by kernel_rfl) (fun _ _ _ h => h) (Or.inl ⟨by rfl, ?_⟩) (by assumption) ?_
    rotate_left
    · intro w hSw; (try dsimp only at hSw); go_simp <;> with_reducible rfl
    try simp only [Act.put, List.setIfInBounds_toArray, List.set_cons_zero, List.set_cons_succ]
    refine wpAnyH_take (i := 6) (oi := { dst := some 71, op := Op.indexAddr 24 (Operand.tmp 66) (Operand.tmp 70), type := 0, pos := "laws.go:702", after := #[{ on := 1, ground := Ground.data }, { on := 5, ground := Ground.data }], guard := none }) (v := ?_) rfl (by kernel_rfl) (by kernel_rfl) (by kernel_rfl) (fun _ _ _ h => h) (Or.inl ⟨by rfl, ?_⟩) (by assumption) ?_
    rotate_left
    · intro w hSw; (try dsimp only at hSw); go_simp <;> with_reducible rfl
    try simp only [Act.put, List.setIfInBounds_toArray, List.set_cons_zero, List.set_cons_succ]
    refine wpAnyH_take (i := 7) (oi := { dst := some 72, op := Op.load 41 (Operand.tmp 71), type := 41, pos := "laws.go:702", after := #[{ on := 6, ground := Ground.data }], guard := none }) (v := .agg (ndC x s1)) rfl (by kernel_rfl) (by kernel_rfl) (by kernel_rfl) (fun _ _ _ h => h) (yields_inode rfl _ rfl ga (n * 31) rfl x s1 (fun u hu => unhide hR11 u (unhide hu.1))) (by assumption) ?_
    try simp only [Act.put, List.setIfInBounds_toArray, List.set_cons_zero, List.set_cons_succ]
    refine wpAnyH_take (i := 8) (oi := { dst := some 73, op := Op.load 41 (Operand.tmp 4), type := 41, pos := "laws.go:702", after := #[], guard := none }) (v := .agg (ndC x s)) rfl (by kernel_rfl) (by kernel_rfl) (by kernel_rfl) (fun _ _ _ h => h) (yields_inode rfl _ rfl b4 0 rfl x s (fun u hu => unhide hR12 u (unhide hu.1))) (by assumption) ?_
    try simp only [Act.put, List.setIfInBounds_toArray, List.set_cons_zero, List.set_cons_succ]
    refine wpAnyH_ready (rs := [9]) (by kernel_rfl) (by simp) ?_
    refine AllReadyH.cons (o := { dst := some 74, op := Op.call { callee := Callee.value (Operand.func 17), args := #[Operand.tmp 72, Operand.tmp 73], argTypes := #[41, 41] }, type := 4, pos := "laws.go:702", after := #[{ on := 7, ground := Ground.data }, { on := 8, ground := Ground.data }], guard := none }) rfl (fun K hK => ?_) AllReadyH.nil
    go_simp
    (first | (go_at_call 17; go_fit (unhide EN _ (unhide hHeld.1)); rintro r wn ⟨rfl, hbn⟩; have sn := unhide hS11 _ (below_two (unhide hHeld.1) hbn)) | (go_at_call 15; go_fit (unhide ESc _ (unhide hHeld.1)); rintro r wn ⟨rfl, hbn⟩; have sn := unhide hS11 _ (below_two (unhide hHeld.1) hbn)))
    refine hK.out _ _ ?_ (fun hHeld => ?_)
    · with_reducible exact sn
    clear hK K
    try simp only [Act.put, List.setIfInBounds_toArray, List.set_cons_zero, List.set_cons_succ]
    refine wpAnyH_take (i := 10) (oi := { dst := some 75, op := Op.unOp UnOp.not 4 (Operand.tmp 74), type := 4, pos := "laws.go:702", after := #[{ on := 9, ground := Ground.data }], guard := none }) (v := ?_) rfl (by kernel_rfl) (by kernel_rfl) (by kernel_rfl) (fun _ _ _ h => h) (Or.inl ⟨by rfl, ?_⟩) (by assumption) ?_
    rotate_left
    · intro w hSw; (try dsimp only at hSw); go_simp <;> with_reducible rfl
    try simp only [Act.put, List.setIfInBounds_toArray, List.set_cons_zero, List.set_cons_succ]
    refine wpAnyH_take (i := 11) (oi := { dst := some 76, op := Op.move (Operand.tmp 75), type := 4, pos := "laws.go:702", after := #[{ on := 10, ground := Ground.data }, { on := 9, ground := Ground.chain }], guard := none }) (v := ?_) rfl (by kernel_rfl) (by kernel_rfl) (by kernel_rfl) (fun _ _ _ h => h) (Or.inl ⟨by rfl, ?_⟩) (by assumption) ?_
    rotate_left
    · intro w hSw; (try dsimp only at hSw); go_simp <;> with_reducible rfl
    try simp only [Act.put, List.setIfInBounds_toArray, List.set_cons_zero, List.set_cons_succ]
    refine wpAnyH_take (i := 12) (oi := { dst := some 77, op := Op.move (Operand.tmp 10), type := 3, pos := "laws.go:702", after := #[{ on := 11, ground := Ground.guard }], guard := some (11, false) }) (v := ?_) rfl (by kernel_rfl) (by kernel_rfl) (by kernel_rfl) (fun _ _ _ h => h) (Or.inl ⟨by rfl, ?_⟩) (by assumption) ?_
    rotate_left
    · intro w hSw; (try dsimp only at hSw); go_simp <;> with_reducible rfl
    try simp only [Act.put, List.setIfInBounds_toArray, List.set_cons_zero, List.set_cons_succ]
    refine wpAnyH_take (i := 13) (oi := { dst := some 78, op := Op.binOp BinOp.neq 3 (Operand.tmp 77) (Operand.const (Value.int IntKind.i64 0)) 3, type := 4, pos := "laws.go:702", after := #[{ on := 12, ground := Ground.data }, { on := 11, ground := Ground.guard }], guard := some (11, false) }) (v := ?_) rfl (by kernel_rfl) (by kernel_rfl) (by kernel_rfl) (fun _ _ _ h => h) (Or.inl ⟨by rfl, ?_⟩) (by assumption) ?_
    rotate_left
    · intro w hSw; (try dsimp only at hSw); go_simp <;> with_reducible rfl
    try simp only [Act.put, List.setIfInBounds_toArray, List.set_cons_zero, List.set_cons_succ]
    refine wpAnyH_take (i := 14) (oi := { dst := some 79, op := Op.pick (Operand.tmp 76) (Operand.const (Value.bool true)) (Operand.tmp 78), type := 4, pos := "laws.go:702", after := #[{ on := 11, ground := Ground.data }, { on := 13, ground := Ground.data }], guard := none }) (v := ?_) rfl (by kernel_rfl) (by kernel_rfl) (by kernel_rfl) (fun _ _ _ h => h) (Or.inl ⟨by rfl, ?_⟩) (by assumption) ?_
    rotate_left
    · intro w hSw; (try dsimp only at hSw); go_simp <;> with_reducible rfl
    try simp only [Act.put, List.setIfInBounds_toArray, List.set_cons_zero, List.set_cons_succ]
    refine wpAnyH_take (i := 15) (oi := { dst := some 80, op := Op.move (Operand.tmp 79), type := 4, pos := "laws.go:702", after := #[{ on := 14, ground := Ground.data }, { on := 11, ground := Ground.chain }], guard := none }) (v := ?_) rfl (by kernel_rfl) (by kernel_rfl) (by kernel_rfl) (fun _ _ _ h => h) (Or.inl ⟨by rfl, ?_⟩) (by assumption) ?_
    rotate_left
    · intro w hSw; (try dsimp only at hSw); go_simp <;> with_reducible rfl
    try simp only [Act.put, List.setIfInBounds_toArray, List.set_cons_zero, List.set_cons_succ]
    refine wpAnyH_take (i := 16) (oi := { dst := some 81, op := Op.load 26 (Operand.tmp 9), type := 26, pos := "laws.go:702", after := #[{ on := 15, ground := Ground.guard }], guard := some (15, false) }) (v := ?_) rfl (by kernel_rfl) (by kernel_rfl) (by kernel_rfl) (fun _ _ _ h => h) (Or.inl ⟨by rfl, ?_⟩) (by assumption) ?_
    rotate_left
    · intro w hSw; (try dsimp only at hSw); go_simp <;> with_reducible rfl
    try simp only [Act.put, List.setIfInBounds_toArray, List.set_cons_zero, List.set_cons_succ]
    refine wpAnyH_take (i := 17) (oi := { dst := some 82, op := Op.load 26 (Operand.tmp 3), type := 26, pos := "laws.go:702", after := #[{ on := 15, ground := Ground.guard }], guard := some (15, false) }) (v := ?_) rfl (by kernel_rfl) (by kernel_rfl) (by kernel_rfl) (fun _ _ _ h => h) (Or.inl ⟨by rfl, ?_⟩) (by assumption) ?_
    rotate_left
    · intro w hSw; (try dsimp only at hSw); go_simp <;> with_reducible rfl
    try simp only [Act.put, List.setIfInBounds_toArray, List.set_cons_zero, List.set_cons_succ]
    refine wpAnyH_ready (rs := [18]) (by kernel_rfl) (by simp) ?_
    refine AllReadyH.cons (o := { dst := some 83, op := Op.call { callee := Callee.value (Operand.func 15), args := #[Operand.tmp 81, Operand.tmp 82], argTypes := #[26, 26] }, type := 4, pos := "laws.go:702", after := #[{ on := 16, ground := Ground.data }, { on := 17, ground := Ground.data }, { on := 15, ground := Ground.chain }, { on := 15, ground := Ground.guard }], guard := some (15, false) }) rfl (fun K hK => ?_) AllReadyH.nil
    go_simp
    (first | (go_at_call 17; go_fit (unhide EN _ (unhide hHeld.1)); rintro r wn ⟨rfl, hbn⟩; have sn := unhide hS11 _ (below_two (unhide hHeld.1) hbn)) | (go_at_call 15; go_fit (unhide ESc _ (unhide hHeld.1)); rintro r wn ⟨rfl, hbn⟩; have sn := unhide hS11 _ (below_two (unhide hHeld.1) hbn)))
    refine hK.out _ _ ?_ (fun hHeld => ?_)
    · with_reducible exact sn
    clear hK K
    try simp only [Act.put, List.setIfInBounds_toArray, List.set_cons_zero, List.set_cons_succ]
    refine wpAnyH_take (i := 19) (oi := { dst := some 84, op := Op.unOp UnOp.not 4 (Operand.tmp 83), type := 4, pos := "laws.go:702", after := #[{ on := 18, ground := Ground.data }, { on := 15, ground := Ground.guard }], guard := some (15, false) }) (v := ?_) rfl (by kernel_rfl) (by kernel_rfl) (by kernel_rfl) (fun _ _ _ h => h) (Or.inl ⟨by rfl, ?_⟩) (by assumption) ?_
    rotate_left
    · intro w hSw; (try dsimp only at hSw); go_simp <;> with_reducible rfl
    try simp only [Act.put, List.setIfInBounds_toArray, List.set_cons_zero, List.set_cons_succ]
    refine wpAnyH_take (i := 20) (oi := { dst := some 85, op := Op.pick (Operand.tmp 80) (Operand.const (Value.bool true)) (Operand.tmp 84), type := 4, pos := "laws.go:702", after := #[{ on := 15, ground := Ground.data }, { on := 19, ground := Ground.data }], guard := none }) (v := ?_) rfl (by kernel_rfl) (by kernel_rfl) (by kernel_rfl) (fun _ _ _ h => h) (Or.inl ⟨by rfl, ?_⟩) (by assumption) ?_
    rotate_left
    · intro w hSw; (try dsimp only at hSw); go_simp <;> with_reducible rfl
    try simp only [Act.put, List.setIfInBounds_toArray, List.set_cons_zero, List.set_cons_succ]
    refine wpAnyH_done (by kernel_rfl) ?_ _
    replace BB := hide (below_two (unhide BB) (unhide hHeld.1))
    clear hHeld hS11 hR11 hR12 EN ESc NA R5 R9
    go_wp2_with fail
    go_loopw [11] (fun i u => ∃ k : Nat, k ≤ n ∧ i = .int .i64 (k : Int) ∧ Hid (Below V.heap.size V u)) (fun i _ => n - (intOf i).toNat)
    case atStart => exact ⟨0, Nat.zero_le _, rfl, BB⟩
    case round =>
      clear BB
      obtain ⟨k, hk, rfl, BB⟩ := hrel
      have cc := unhide RR _ (unhide BB)
      by_cases hlt : k < n
      · have hlt' : (k : Int) < (n : Int) := by omega
        obtain ⟨b, o, hao, hrg⟩ := (unhide NN _ (unhide BB) k hlt).range
        subst hao
        have EUk := hide (unhide EU (X k).id)
        have EDk := hide (unhide ED k hlt)
        obtain ⟨DX, DN, UL, hD⟩ : ∃ DX DN UL, Hid (dropX X n (X k).id = DX ∧ dropN X n (X k).id = DN ∧ underL X n (X k).id = UL) := ⟨_, _, _, rfl, rfl, rfl⟩
        obtain ⟨hdN, hdF, hdS⟩ := (drop_one (unhide hS) hlt).2
        rw [(unhide hD).1, (unhide hD).2.1] at hdF hdS EDk
        rw [(unhide hD).2.1, (unhide hD).2.2] at hdN
        rw [(unhide hD).2.2] at EUk
        have c9 : wr.cell? ⟨b, o + k * 31, none⟩ = some (.int .i64 (X k).id) := hrg 0 _ rfl
        replace hdS := hide hdS
        replace hdF := hide hdF
        have hdw : IntKind.i64.wrap ((DN : Int) + (UL.length : Int)) = (n : Int) := by rw [IntWalk.i64_in _ (by omega)]; omega
        replace hdN := hide hdN
        generalize (X k).id = z at c9 EUk EDk hdF
        clear hrg hD
        go_wp2_with fail
        go_fit (unhide EUk _ (unhide BB))
        rintro r u1 ⟨q1, c1, rfl, hb1⟩
        have B1 := hide (below_two (unhide BB) hb1)
        clear cc c9 hb1 EUk
        have cc := unhide RR _ (unhide B1)
        go_wp2_with fail
        go_fit (unhide EDk _ (unhide B1))
        rintro r u2 ⟨q2, c2, A2, rfl, SG2, hb2⟩
        clear cc EDk
        go_upto_region 19 with fail
        have R14 := hide (new_row u2 (.cells #[.slice q2 DN c2] 26))
        have B2 := hide (below_two (unhide B1) (below_two hb2 (al1_below u2 (.cells #[.slice q2 DN c2] 26))))
        have SG3 := hide (SG2.next (al1_below u2 (.cells #[.slice q2 DN c2] 26)))
        clear hb2 B1 SG2
        generalize u2.alloc (.cells #[.slice q2 DN c2] 26) = U2 at R14 B2 SG3 ⊢
        generalize u2.heap.size = b14 at R14 ⊢
        have cc := unhide RR _ (unhide B2)
        have d0 := row1 (unhide R14)
        have F := hide (ok_call DX A2 q2 DN c2 (unhide hdS) U2 (unhide SG3).nodes)
        have G := hide (fun u (hu : Below U2.heap.size U2 u) => (implNodeAt_any DX A2 q2 DN c2 (by have := (unhide hdS).1; omega) z u (fun i hi => ((unhide SG3).nodes i hi).next hu)))
        have hfz := unhide hdF
        generalize firstN DX z DN = fz at hfz G
        have hfz' : ¬ (0 ≤ fz) := by omega
        go_wp2_with fail
        go_fit (unhide F)
        rintro r u4 ⟨rfl, hb4⟩
        have cc4 := unhide RR _ (below_two (unhide B2) hb4)
        have d4 := kc hb4 d0
        clear cc d0 F
        go_wp2_with fail
        go_fit (unhide G _ hb4)
        rintro r u5 ⟨rfl, hb5⟩
        have B5 := hide (below_two (below_two (unhide B2) hb4) hb5)
        clear cc4 d4 hb4 hb5 G
        go_wp2_with fail
        go_roundw
        case rel => exact ⟨k + 1, by omega, by go_num, B5⟩
        case measure => simp [intOf]; omega
      · have hke : k = n := by omega
        subst hke
        have hlt' : ¬ (k : Int) < (k : Int) := by omega
        go_wp2_with fail
        go_fit (unhide ED98 _ (unhide BB))
        rintro r u6 ⟨q6, c6, A6, rfl, _, hb6⟩
        clear cc
        go_upto_region 22 with fail
        have B6 := hide (below_two (unhide BB) (below_two hb6 (al1_below u6 (.cells #[.slice q6 k c6] 26))))
        clear hb6
        generalize u6.alloc (.cells #[.slice q6 k c6] 26) = U6 at B6 ⊢
        generalize u6.heap.size = b16
        have cc := unhide RR _ (unhide B6)
        go_wp2_with fail
        go_fit (unhide EZ _ (unhide B6))
        rintro r u7 ⟨q7, c7, A7, rfl, _, hb7⟩
        clear cc
        go_wp2_with fail
        go_ret
        exact ⟨rfl, below_two (unhide HB) (below_two (unhide B6) (below_two hb7 (al1_below u7 _)))⟩
  · obtain ⟨_, e1, e2⟩ := create_no (c := createC X n x) rfl hcc
    rw [e1, e2] at SG1
    rw [e1] at R5
    clear e1 e2
    generalize createC X n x = cd at hcc ⊢
    have F := hide (ok_call X A1 pa n ca (unhide hS) U (unhide SG1).nodes)
    have ESc := hide (fun u (hu : Below U.heap.size U u) => sameScene_same X A1 A pa p n ca c hn (unhide hsm2) u (fun i hi => ((unhide SG1).nodes i hi).next hu) (unhide NN u (below_two (unhide BB) hu)))
    have cc := unhide RR _ (unhide BB)
    have d5 := row1 (unhide R5)
    have hcb : (cd == 0) = false := beq_eq_false_iff_ne.2 hcc
    go_wp2_with fail
    go_fit (unhide F)
    rintro r u3 ⟨rfl, hb⟩
    have cc3 := unhide RR _ (below_two (unhide BB) hb)
    have d3 := kc hb d5
    clear cc d5
    go_wp2_with fail
    go_fit (unhide ESc _ hb)
    rintro r u4 ⟨rfl, hb4⟩
    replace BB := hide (below_two (below_two (unhide BB) hb) hb4)
    clear cc3 d3 hb hb4 F ESc SG1 R5
    go_wp2_with fail
    go_loopw [11] (fun i u => ∃ k : Nat, k ≤ n ∧ i = .int .i64 (k : Int) ∧ Hid (Below V.heap.size V u)) (fun i _ => n - (intOf i).toNat)
    case atStart => exact ⟨0, Nat.zero_le _, rfl, BB⟩
    case round =>
      clear BB
      obtain ⟨k, hk, rfl, BB⟩ := hrel
      have cc := unhide RR _ (unhide BB)
      by_cases hlt : k < n
      · have hlt' : (k : Int) < (n : Int) := by omega
        obtain ⟨b, o, hao, hrg⟩ := (unhide NN _ (unhide BB) k hlt).range
        subst hao
        have EUk := hide (unhide EU (X k).id)
        have EDk := hide (unhide ED k hlt)
        obtain ⟨DX, DN, UL, hD⟩ : ∃ DX DN UL, Hid (dropX X n (X k).id = DX ∧ dropN X n (X k).id = DN ∧ underL X n (X k).id = UL) := ⟨_, _, _, rfl, rfl, rfl⟩
        obtain ⟨hdN, hdF, hdS⟩ := (drop_one (unhide hS) hlt).2
        rw [(unhide hD).1, (unhide hD).2.1] at hdF hdS EDk
        rw [(unhide hD).2.1, (unhide hD).2.2] at hdN
        rw [(unhide hD).2.2] at EUk
        have c9 : wr.cell? ⟨b, o + k * 31, none⟩ = some (.int .i64 (X k).id) := hrg 0 _ rfl
        replace hdS := hide hdS
        replace hdF := hide hdF
        have hdw : IntKind.i64.wrap ((DN : Int) + (UL.length : Int)) = (n : Int) := by rw [IntWalk.i64_in _ (by omega)]; omega
        replace hdN := hide hdN
        generalize (X k).id = z at c9 EUk EDk hdF
        clear hrg hD
        go_wp2_with fail
        go_fit (unhide EUk _ (unhide BB))
        rintro r u1 ⟨q1, c1, rfl, hb1⟩
        have B1 := hide (below_two (unhide BB) hb1)
        clear cc c9 hb1 EUk
        have cc := unhide RR _ (unhide B1)
        go_wp2_with fail
        go_fit (unhide EDk _ (unhide B1))
        rintro r u2 ⟨q2, c2, A2, rfl, SG2, hb2⟩
        clear cc EDk
        go_upto_region 19 with fail
        have R14 := hide (new_row u2 (.cells #[.slice q2 DN c2] 26))
        have B2 := hide (below_two (unhide B1) (below_two hb2 (al1_below u2 (.cells #[.slice q2 DN c2] 26))))
        have SG3 := hide (SG2.next (al1_below u2 (.cells #[.slice q2 DN c2] 26)))
        clear hb2 B1 SG2
        generalize u2.alloc (.cells #[.slice q2 DN c2] 26) = U2 at R14 B2 SG3 ⊢
        generalize u2.heap.size = b14 at R14 ⊢
        have cc := unhide RR _ (unhide B2)
        have d0 := row1 (unhide R14)
        have F := hide (ok_call DX A2 q2 DN c2 (unhide hdS) U2 (unhide SG3).nodes)
        have G := hide (fun u (hu : Below U2.heap.size U2 u) => (implNodeAt_any DX A2 q2 DN c2 (by have := (unhide hdS).1; omega) z u (fun i hi => ((unhide SG3).nodes i hi).next hu)))
        have hfz := unhide hdF
        generalize firstN DX z DN = fz at hfz G
        have hfz' : ¬ (0 ≤ fz) := by omega
        go_wp2_with fail
        go_fit (unhide F)
        rintro r u4 ⟨rfl, hb4⟩
        have cc4 := unhide RR _ (below_two (unhide B2) hb4)
        have d4 := kc hb4 d0
        clear cc d0 F
        go_wp2_with fail
        go_fit (unhide G _ hb4)
        rintro r u5 ⟨rfl, hb5⟩
        have B5 := hide (below_two (below_two (unhide B2) hb4) hb5)
        clear cc4 d4 hb4 hb5 G
        go_wp2_with fail
        go_roundw
        case rel => exact ⟨k + 1, by omega, by go_num, B5⟩
        case measure => simp [intOf]; omega
      · have hke : k = n := by omega
        subst hke
        have hlt' : ¬ (k : Int) < (k : Int) := by omega
        go_wp2_with fail
        go_fit (unhide ED98 _ (unhide BB))
        rintro r u6 ⟨q6, c6, A6, rfl, _, hb6⟩
        clear cc
        go_upto_region 22 with fail
        have B6 := hide (below_two (unhide BB) (below_two hb6 (al1_below u6 (.cells #[.slice q6 k c6] 26))))
        clear hb6
        generalize u6.alloc (.cells #[.slice q6 k c6] 26) = U6 at B6 ⊢
        generalize u6.heap.size = b16
        have cc := unhide RR _ (unhide B6)
        go_wp2_with fail
        go_fit (unhide EZ _ (unhide B6))
        rintro r u7 ⟨q7, c7, A7, rfl, _, hb7⟩
        clear cc
        go_wp2_with fail
        go_ret
        exact ⟨rfl, below_two (unhide HB) (below_two (unhide B6) (below_two hb7 (al1_below u7 _)))⟩
end Go.Proofs.YtmafopckplpajaaGreatDoor

/-
  FnSets: a node of a drawn scene that is set is what it was told, but its parent; all else stays. (By setslaw.py.)
-/
namespace Go.Proofs.YtmafopckplpajaaGreatDoor
open Go.RowKit
set_option linter.unusedVariables false

theorem set_small {X : Nat → Nd} {n : Nat} {x : Nd} (hs : ∀ i, i < n → (X i).Small) (hx : x.Small) : ∀ i, i < n → (setX X n x i).Small := fun i hi => by
  unfold setX
  split
  · by_cases e : i = (firstN X x.id n).toNat
    · rw [e, upd_at]; exact par_fit _ _ hx
    · rw [upd_ne _ _ e]; exact hs i hi
  · exact hs i hi

set_option maxHeartbeats 16000000 in
set_option maxRecDepth 100000 in
theorem fnSets_walk (a0 : Option Addr) (len0 cap0 : Nat) (z0 : List Int) (w : World) (w0 : IsRow .u8 w a0 len0 cap0 z0) (hg : ErrT w) :
    Calls Tryz.prog 5 #[.slice a0 len0 cap0] w fun e w' => e = .returned (.bool true) ∧ Below w.heap.size w w' := by
  by_cases hl : len0 ≤ 1048576
  rotate_left
  · go_enter Tryz.func5, Tryz.ntmps5
    go_wp2_with (go_at_call 9; go_must (refine (big_yes a0 len0 cap0 hl _).mono ?_); rintro e w1 ⟨rfl, rfl⟩)
    go_ret
    exact ⟨rfl, Below.refl _ _⟩
  have HI := hide (InB.of_row w0)
  have lw := hide (show 0 < w.heap.size by
    have h := hg
    unfold ErrT at h
    rcases Nat.eq_zero_or_pos w.heap.size with h0 | h'
    · simp [World.cell?, h0] at h
    · exact h')
  replace hg := hide hg
  clear w0
  go_enter Tryz.func5, Tryz.ntmps5
  go_wp2_with fail
  refine (big_no a0 len0 cap0 hl _).mono ?_
  rintro e w1 ⟨rfl, hw⟩
  rw [hw]
  clear hw w1
  go_wp2_with fail
  refine (drawSetNode_any a0 len0 cap0 _ hl (unhide HI)).mono ?_
  rintro e w2 ⟨n, p, c, X, A, q, x, s, base, rfl, hn9, SC, ND, hb⟩
  have h4 := hide (al2_1 w2 (.cells #[.slice p n c] 26) (.cells #[.int .i64 0, .int .i64 0, .bool false, .int .i64 0, .int .i64 0, .int .i64 0, .int .i64 0, .int .i64 0, .int .i64 0, .slice none 0 0, .slice none 0 0, .bool false, .int .i64 0, .slice none 0 0, .int .i64 0, .int .i64 0, .int .i64 0, .int .i64 0, .int .i64 0, .int .i64 0, .int .i64 0, .int .i64 0, .int .i64 0, .int .i64 0, .int .i64 0, .int .i64 0, .int .i64 0, .int .i64 0, .int .i64 0, .slice none 0 0, .slice none 0 0] 41))
  go_upto_region 4 with (guard_target =~ wpList _ _ _ ({ dst := none, op := Op.store 41 _ _, type := _, pos := _, after := _, guard := _} :: _) _ _; refine wpList_store_row rfl 41 _ _ rfl (w2.heap.size + 1) (ndC x s) rfl rfl 41 _ (unhide h4) (ndC_info x s) (by rw [ndC_size]; rfl) (ndC_one x s) ?_)
  have R3 := hide (row_kept (setRow_grown ((w2.alloc (.cells #[.slice p n c] 26)).alloc (.cells #[.int .i64 0, .int .i64 0, .bool false, .int .i64 0, .int .i64 0, .int .i64 0, .int .i64 0, .int .i64 0, .int .i64 0, .slice none 0 0, .slice none 0 0, .bool false, .int .i64 0, .slice none 0 0, .int .i64 0, .int .i64 0, .int .i64 0, .int .i64 0, .int .i64 0, .int .i64 0, .int .i64 0, .int .i64 0, .int .i64 0, .int .i64 0, .int .i64 0, .int .i64 0, .int .i64 0, .int .i64 0, .int .i64 0, .slice none 0 0, .slice none 0 0] 41)) (w2.heap.size + 1) (ndC x s)) (Nat.ne_of_lt (Nat.lt_succ_self w2.heap.size)) (al2_0 w2 (.cells #[.slice p n c] 26) (.cells #[.int .i64 0, .int .i64 0, .bool false, .int .i64 0, .int .i64 0, .int .i64 0, .int .i64 0, .int .i64 0, .int .i64 0, .slice none 0 0, .slice none 0 0, .bool false, .int .i64 0, .slice none 0 0, .int .i64 0, .int .i64 0, .int .i64 0, .int .i64 0, .int .i64 0, .int .i64 0, .int .i64 0, .int .i64 0, .int .i64 0, .int .i64 0, .int .i64 0, .int .i64 0, .int .i64 0, .int .i64 0, .int .i64 0, .slice none 0 0, .slice none 0 0] 41)))
  have R4 := hide (setRow_row (C := ndC x s) (unhide h4))
  have bV := hide (below_setRow (g := w2.heap.size + 1) (al2_below w2 (.cells #[.slice p n c] 26) (.cells #[.int .i64 0, .int .i64 0, .bool false, .int .i64 0, .int .i64 0, .int .i64 0, .int .i64 0, .int .i64 0, .int .i64 0, .slice none 0 0, .slice none 0 0, .bool false, .int .i64 0, .slice none 0 0, .int .i64 0, .int .i64 0, .int .i64 0, .int .i64 0, .int .i64 0, .int .i64 0, .int .i64 0, .int .i64 0, .int .i64 0, .int .i64 0, .int .i64 0, .int .i64 0, .int .i64 0, .int .i64 0, .int .i64 0, .slice none 0 0, .slice none 0 0] 41)) (Nat.le_succ w2.heap.size) (ndC x s))
  obtain ⟨b4, hb4⟩ : ∃ b, Hid (b = w2.heap.size + 1) := ⟨_, rfl⟩
  obtain ⟨b3, hb3⟩ : ∃ b, Hid (b = w2.heap.size) := ⟨_, rfl⟩
  have lb := hide (show b3 < b4 ∧ w.heap.size ≤ b3 by have := hb.size; rw [unhide hb3, unhide hb4]; omega)
  have ltS := hide (show (∀ k, (Value.slice p n c).ownBlock = some k → k < b4) ∧ ∀ j, j < n → ∀ l, l < 5 → 0 < lnl (X j) l → ∀ k, (lvl (X j) (A j) l).ownBlock = some k → k < b4 by have h := SC.lt; rw [unhide hb4]; exact ⟨fun k e => by have := h.1 k e; omega, fun j hj l hl h0 k e => by have := h.2 j hj l hl h0 k e; omega⟩)
  have ltX := hide (show ∀ l, l < 5 → 0 < lnl x l → ∀ k, (lvl x s l).ownBlock = some k → k < b4 from fun l hl h0 k e => by have := ND.inn.lt hl h0 k e; rw [unhide hb4]; omega)
  replace SC := hide (SC.next (unhide bV))
  replace ND := hide (ND.next (unhide bV))
  have HB := hide (below_two hb (unhide bV))
  rw [← unhide hb4] at R3 R4 SC ND HB
  rw [← unhide hb3] at R3
  rw [← unhide hb4, ← unhide hb3]
  clear hb bV h4 hb3 hb4 HI
  generalize World.setRow _ b4 (ndC x s) = V at R3 R4 SC ND HB ⊢
  have RR := hide (fun u (hu : Below V.heap.size V u) => row1 (row_next hu (unhide R3)))
  have R4N := hide (fun u (hu : Below V.heap.size V u) => row_next hu (unhide R4))
  have NN := hide (fun u (hu : Below V.heap.size V u) i hi => ((unhide SC).nodes i hi).next hu)
  have ET := hide (fun u (hu : Below V.heap.size V u) => (unhide hg).next (below_two (unhide HB) hu))
  have hn : n ≤ 1048576 := by omega
  have hsm := hide (show ∀ i, i < n → (X i).Small from fun i hi => ((unhide SC).f i hi).small)
  have hcp := hide (show ∀ i, i < n → Caps (X i) (A i) from fun i hi => ((unhide SC).f i hi).caps)
  have hwf := hide (show Wf X n from ⟨fun i hi => ((unhide SC).f i hi).wid, fun i hi => ((unhide SC).f i hi).wpar⟩)
  have hnc := hide (show n ≤ c ∧ (p = none → c = 0) by obtain ⟨ys, h1, _⟩ := (unhide SC).row; exact own_caps h1)
  have E1 := hide (fun u (hu : Below V.heap.size V u) => implSetNode_any X A p n c hn (unhide hnc).1 (unhide hnc).2 (unhide hsm) (unhide hcp) (unhide hwf) x s (unhide ND).small (unhide ND).caps u (unhide NN u hu) ((unhide ND).inn.next hu) (unhide ET u hu))
  have E2 := hide (fun u (hu : Below V.heap.size V u) => specSetNode_any X A p n c hn (unhide hsm) (unhide hcp) x s (unhide ND).small (unhide ND).caps u (unhide NN u hu) ((unhide ND).inn.next hu))
  have hsY := hide (set_small (unhide hsm) (unhide ND).small)
  have cc := unhide RR _ (Below.refl _ _)
  go_wp2_with (with_reducible refine load_own rfl _ rfl b4 rfl x s 41 (unhide R4) ?_)
  go_fit (unhide E1 _ (Below.refl _ _))
  rintro r u1 ⟨pa, ca, A1, rfl, SG1, hb1⟩
  clear cc E1
  go_upto_region 5 with fail
  have R5 := hide (new_row u1 (.cells #[.slice pa n ca] 26))
  have BB := hide (below_two hb1 (al1_below u1 (.cells #[.slice pa n ca] 26)))
  replace SG1 := hide ((SG1.next (al1_below u1 (.cells #[.slice pa n ca] 26))).high (show u1.heap.size ≤ u1.heap.size from Nat.le_refl _))
  have l5 := hide (show V.heap.size ≤ u1.heap.size from hb1.size)
  clear hb1
  generalize u1.alloc (.cells #[.slice pa n ca] 26) = U1 at R5 BB SG1 ⊢
  generalize u1.heap.size = b5 at R5 l5 SG1 ⊢
  have cc := unhide RR _ (unhide BB)
  go_wp2_with (with_reducible refine load_own rfl _ rfl b4 rfl x s 41 (unhide R4N _ (unhide BB)) ?_)
  go_fit (unhide E2 _ (unhide BB))
  rintro r u2 ⟨pb, cb, A2, rfl, SG2, hb2⟩
  clear cc E2
  go_upto_region 6 with fail
  have R7 := hide (new_row u2 (.cells #[.slice pb n cb] 26))
  have b2' := hide (below_two hb2 (al1_below u2 (.cells #[.slice pb n cb] 26)))
  replace R5 := hide (row_next (unhide b2') (unhide R5))
  replace SG1 := hide ((unhide SG1).next (unhide b2'))
  replace SG2 := hide (SG2.next (al1_below u2 (.cells #[.slice pb n cb] 26)))
  replace BB := hide (below_two (unhide BB) (unhide b2'))
  clear hb2 b2'
  generalize u2.alloc (.cells #[.slice pb n cb] 26) = U at R5 R7 BB SG1 SG2 ⊢
  generalize u2.heap.size = b7 at R7 SG2 ⊢
  have ES0 := hide (sameScene_same (setX X n x) A1 A2 pa pb n ca cb hn (unhide hsY) U (unhide SG1).nodes (unhide SG2).nodes)
  obtain ⟨cd, hcd⟩ : ∃ cd, Hid (setC16 X n x = cd) := ⟨_, rfl⟩
  rw [unhide hcd]
  have d5 := row1 (unhide R5)
  have d7 := row1 (unhide R7)
  go_wp2_with fail
  go_fit (unhide ES0)
  rintro r u3 ⟨rfl, hb⟩
  replace R5 := hide (row_next hb (unhide R5))
  replace SG1 := hide ((unhide SG1).next hb)
  replace BB := hide (below_two (unhide BB) hb)
  clear hb d5 d7 R7 SG2 ES0
  by_cases hc0 : cd = 0
  rotate_left
  · have hcb : (cd == 0) = false := beq_eq_false_iff_ne.2 hc0
    have e1 := (set_no (unhide hcd) hc0).2
    rw [e1] at SG1
    have ESc := hide (sameScene_same X A1 A pa p n ca c hn (unhide hsm) u3 (unhide SG1).nodes (unhide NN _ (unhide BB)))
    have cc := unhide RR _ (unhide BB)
    have d5 := row1 (unhide R5)
    clear hcd e1
    go_wp2_with fail
    go_fit (unhide ESc)
    rintro r u4 ⟨rfl, hb4⟩
    go_wp2_with fail
    go_ret
    exact ⟨rfl, below_two (unhide HB) (below_two (unhide BB) hb4)⟩
  subst hc0
  obtain ⟨k, hk, e1, e2, hS, hx, e3, hS', hc1, hx1⟩ := set_back (unhide hcd)
  rw [e2] at SG1
  have EAt := hide (fun u (hu : Below V.heap.size V u) => (specNodeAt_any X A p n c hn x.id u (unhide NN u hu)).mono fun r w' h => show r = .returned (.int .i64 (k : Int)) ∧ Below u.heap.size u w' by rw [e1] at h; exact h)
  replace hS := hide hS
  replace hx := hide hx
  replace hS' := hide hS'
  replace hc1 := hide hc1
  replace hx1 := hide hx1
  have e4 := hide e3
  clear e1 e2 hcd e3 hsY
  obtain ⟨yp, hyp⟩ : ∃ z, Hid ((X k).par = z) := ⟨_, rfl⟩
  have cc := unhide RR _ (unhide BB)
  have d4 := (nd_heads (unhide R4N _ (unhide BB))).1
  go_wp2_with fail
  go_fit (unhide EAt _ (unhide BB))
  rintro r u4 ⟨rfl, hb⟩
  replace R5 := hide (row_next hb (unhide R5))
  replace SG1 := hide ((unhide SG1).next hb)
  replace BB := hide (below_two (unhide BB) hb)
  clear cc d4 hb EAt
  obtain ⟨b, o, hao, hrg⟩ := (unhide NN _ (unhide BB) k hk).range
  subst hao
  have cc := unhide RR _ (unhide BB)
  have c1 : u4.cell? ⟨b, o + k * 31 + 1, none⟩ = some (.int .i64 yp) := by rw [← unhide hyp]; exact hrg 1 _ rfl
  have d4 := (nd_heads (unhide R4N _ (unhide BB))).2
  have f4 := frozen_of_row u4 b4 1 _ _ (unhide R4N _ (unhide BB))
  have hkn : (k : Int) < (n : Int) := by omega
  have R4U := hide (unhide R4N _ (unhide BB))
  clear hrg
  go_upto_region 12 with fail
  clear cc c1 d4 f4
  -- the node's parent is set in its variable
  have gr := hide (setc_grown u4 b4 1 (.int .i64 yp))
  have R4s := hide (show (u4.setCell ⟨b4, 1, none⟩ (.int .i64 yp)).heap[b4]? = some (.cells (ndC (x.withPar yp) s) 41 (0, 0)) by have h := setC (v := .int .i64 yp) (j := 1) (unhide R4U); rw [ndC_par] at h; exact h)
  have R3s := hide (show (u4.setCell ⟨b4, 1, none⟩ (.int .i64 yp)).heap[b3]? = some (.cells #[.slice (some ⟨b, o, none⟩) n c] 26 (0, 0)) from setc_other (by have := unhide lb; omega) (row_next (unhide BB) (unhide R3)))
  have l45 := hide (show b4 < V.heap.size from heap_lt (unhide R4))
  have R5s := hide (setc_other (b := b4) (j := 1) (v := .int .i64 yp) (by have := unhide l45; have := unhide l5; omega) (unhide R5))
  have SCs := hide ((((unhide SC).next (unhide BB))).keptB (unhide gr) (unhide ltS))
  have NDs := hide (show NdF (u4.setCell ⟨b4, 1, none⟩ (.int .i64 yp)) base x s from ⟨((unhide ND).inn.next (unhide BB)).kept (unhide gr) (fun l hl h0 k e e2 => by have := unhide ltX l hl h0 k e; have e3 := Option.some.inj e2; omega), (unhide ND).caps, (unhide ND).small, (unhide ND).wid, (unhide ND).wpar, (unhide ND).far⟩)
  have SGs := hide ((unhide SG1).setc (b := b4) (j := 1) (v := .int .i64 yp) (unhide l45))
  have BU := hide (show ∀ u, Below (u4.setCell ⟨b4, 1, none⟩ (.int .i64 yp)).heap.size (u4.setCell ⟨b4, 1, none⟩ (.int .i64 yp)) u → Below w.heap.size w u from fun u hu => below_two ((below_two (unhide HB) (unhide BB)).setCell (p := ⟨b4, 1, none⟩) (by have := unhide lb; dsimp only; omega) (.int .i64 yp)) hu)
  have ETs := hide ((unhide hg).low (show 0 < w.heap.size from unhide lw) (unhide BU _ (Below.refl _ _)))
  clear gr R4U SC ND SG1 RR R4N NN ET BB R3 R4 R5
  generalize u4.setCell ⟨b4, 1, none⟩ (.int .i64 yp) = U at R4s R3s R5s SCs NDs SGs BU ETs ⊢
  obtain ⟨xx, hxx⟩ : ∃ z, Hid (x.withPar yp = z) := ⟨_, rfl⟩
  rw [unhide hyp] at SGs hS' hc1 hx1
  rw [unhide hxx] at R4s SGs hS' hc1 hx1
  have xxs := hide (show xx.Small by rw [← unhide hxx]; exact par_fit _ _ (unhide NDs).small)
  have xxin := hide (show NdIn U xx s by rw [← unhide hxx]; exact ⟨(unhide NDs).inn.v, (unhide NDs).inn.p, (unhide NDs).inn.d, (unhide NDs).inn.cv, (unhide NDs).inn.cp⟩)
  have RR2 := hide (fun u (hu : Below U.heap.size U u) => row1 (row_next hu (unhide R3s)))
  have NN2 := hide (fun u (hu : Below U.heap.size U u) i hi => ((unhide SCs).nodes i hi).next hu)
  obtain ⟨ys, y1, _⟩ := (unhide SGs).row
  obtain ⟨ga, c', e, _, _⟩ := own_at y1 (by omega : 0 < n)
  cases e
  have NA := hide (show NrAt U (some ⟨ga, 0, none⟩) k xx (A1 k) by have h := (unhide SGs).nodes k hk; rwa [upd_at] at h)
  obtain ⟨s1, hs1⟩ : ∃ t, Hid (t = A1 k) := ⟨_, rfl⟩
  rw [← unhide hs1] at NA
  clear y1
  have EN := hide (fun u (hu : Below U.heap.size U u) => sameNode_same xx s1 s (unhide xxs) u (((unhide NA).next hu).inn) ((unhide xxin).next hu))
  have EOk := hide (fun u (hu : Below U.heap.size U u) => ok_call (upd X k xx) A1 (some ⟨ga, 0, none⟩) n ca (unhide hS') u (fun i hi => ((unhide SGs).nodes i hi).next hu))
  have hS12 := hide (fun u (hu : Below U.heap.size U u) => show Hid (Below U.heap.size U u) ∧ u.cell? ⟨b5, 0, none⟩ = some (.slice (some ⟨ga, 0, none⟩) n ca) from ⟨hu, row1 (row_next hu (unhide R5s))⟩)
  have hRA := hide (fun u (hu : Below U.heap.size U u) => show u.rangeAt ga (k * 31) (ndC xx s1).toList by
    obtain ⟨b', o', e, h⟩ := ((unhide NA).next hu).range
    cases e
    rwa [Nat.zero_add] at h)
  have hRX := hide (fun u (hu : Below U.heap.size U u) => nd_rng (row_next hu (unhide R4s)))
  refine wp_region_held_drew (S := (fun u => Hid (Below U.heap.size U u) ∧ u.cell? ⟨b5, 0, none⟩ = some (.slice (some ⟨ga, 0, none⟩) n ca))) (by kernel_rfl) ?_ (fun hHeld => ?_)
  · exact unhide hS12 _ (Below.refl _ _).drew
  refine wpAnyH_take (i := 0) (oi := { dst := some 56, op := Op.fieldAddr 26 (Operand.tmp 5) 0, type := 0, pos := "laws.go:769", after := #[], guard := none }) (v := ?_) rfl (by kernel_rfl) (by kernel_rfl) (by kernel_rfl) (fun _ _ _ h => h) (Or.inl ⟨by rfl, ?_⟩) (by assumption) ?_
  rotate_left
  · intro w hSw; (try dsimp only at hSw); go_simp <;> with_reducible rfl
  try simp only [Act.put, List.setIfInBounds_toArray, List.set_cons_zero, List.set_cons_succ]
  refine wpAnyH_take (i := 1) (oi := { dst := some 57, op := Op.load 24 (Operand.tmp 56), type := 24, pos := "laws.go:769", after := #[{ on := 0, ground := Ground.data }], guard := none }) (v := ?_) rfl (by kernel_rfl) (by kernel_rfl) (by kernel_rfl) (fun _ _ _ h => h) (Or.inl ⟨by rfl, ?_⟩) (by assumption) ?_
  rotate_left
  · intro w hSw; (try dsimp only at hSw); go_simp <;> with_reducible rfl
  try simp only [Act.put, List.setIfInBounds_toArray, List.set_cons_zero, List.set_cons_succ]
  refine wpAnyH_take (i := 2) (oi := { dst := some 58, op := Op.move (Operand.tmp 9), type := 3, pos := "laws.go:769", after := #[], guard := none }) (v := ?_) rfl (by kernel_rfl) (by kernel_rfl) (by kernel_rfl) (fun _ _ _ h => h) (Or.inl ⟨by rfl, ?_⟩) (by assumption) ?_
  rotate_left
  · intro w hSw; (try dsimp only at hSw); go_simp <;> with_reducible rfl
  try simp only [Act.put, List.setIfInBounds_toArray, List.set_cons_zero, List.set_cons_succ]
  refine wpAnyH_take (i := 3) (oi := { dst := some 59, op := Op.indexAddr 24 (Operand.tmp 57) (Operand.tmp 58), type := 0, pos := "laws.go:769", after := #[{ on := 1, ground := Ground.data }, { on := 2, ground := Ground.data }], guard := none }) (v := ?_) rfl (by kernel_rfl) (by kernel_rfl) (by kernel_rfl) (fun _ _ _ h => h) (Or.inl ⟨by rfl, ?_⟩) (by assumption) ?_
  rotate_left
  · intro w hSw; (try dsimp only at hSw); go_simp <;> with_reducible rfl
  try simp only [Act.put, List.setIfInBounds_toArray, List.set_cons_zero, List.set_cons_succ]
  refine wpAnyH_take (i := 4) (oi := { dst := some 60, op := Op.load 41 (Operand.tmp 59), type := 41, pos := "laws.go:769", after := #[{ on := 3, ground := Ground.data }], guard := none }) (v := .agg (ndC xx s1)) rfl (by kernel_rfl) (by kernel_rfl) (by kernel_rfl) (fun _ _ _ h => h) (yields_inode rfl _ rfl ga (k * 31) rfl xx s1 (fun u hu => unhide hRA u (unhide hu.1))) (by assumption) ?_
  try simp only [Act.put, List.setIfInBounds_toArray, List.set_cons_zero, List.set_cons_succ]
  refine wpAnyH_take (i := 5) (oi := { dst := some 61, op := Op.load 41 (Operand.tmp 4), type := 41, pos := "laws.go:769", after := #[], guard := none }) (v := .agg (ndC xx s)) rfl (by kernel_rfl) (by kernel_rfl) (by kernel_rfl) (fun _ _ _ h => h) (yields_inode rfl _ rfl b4 0 rfl xx s (fun u hu => unhide hRX u (unhide hu.1))) (by assumption) ?_
  try simp only [Act.put, List.setIfInBounds_toArray, List.set_cons_zero, List.set_cons_succ]
  refine wpAnyH_ready (rs := [6]) (by kernel_rfl) (by simp) ?_
  refine AllReadyH.cons (o := { dst := some 62, op := Op.call { callee := Callee.value (Operand.func 17), args := #[Operand.tmp 60, Operand.tmp 61], argTypes := #[41, 41] }, type := 4, pos := "laws.go:769", after := #[{ on := 4, ground := Ground.data }, { on := 5, ground := Ground.data }], guard := none }) rfl (fun K hK => ?_) AllReadyH.nil
  go_simp
  (first | (go_at_call 17; go_fit (unhide EN _ (unhide hHeld.1)); rintro r wn ⟨rfl, hbn⟩; have sn := unhide hS12 _ (below_two (unhide hHeld.1) hbn)) | (go_at_call 14; go_fit (unhide EOk _ (unhide hHeld.1)); rintro r wn ⟨rfl, hbn⟩; have sn := unhide hS12 _ (below_two (unhide hHeld.1) hbn)))
  refine hK.out _ _ ?_ (fun hHeld => ?_)
  · with_reducible exact sn
  clear hK K
  try simp only [Act.put, List.setIfInBounds_toArray, List.set_cons_zero, List.set_cons_succ]
  refine wpAnyH_take (i := 7) (oi := { dst := some 63, op := Op.unOp UnOp.not 4 (Operand.tmp 62), type := 4, pos := "laws.go:769", after := #[{ on := 6, ground := Ground.data }], guard := none }) (v := ?_) rfl (by kernel_rfl) (by kernel_rfl) (by kernel_rfl) (fun _ _ _ h => h) (Or.inl ⟨by rfl, ?_⟩) (by assumption) ?_
  rotate_left
  · intro w hSw; (try dsimp only at hSw); go_simp <;> with_reducible rfl
  try simp only [Act.put, List.setIfInBounds_toArray, List.set_cons_zero, List.set_cons_succ]
  refine wpAnyH_take (i := 8) (oi := { dst := some 64, op := Op.move (Operand.tmp 63), type := 4, pos := "laws.go:769", after := #[{ on := 7, ground := Ground.data }, { on := 6, ground := Ground.chain }], guard := none }) (v := ?_) rfl (by kernel_rfl) (by kernel_rfl) (by kernel_rfl) (fun _ _ _ h => h) (Or.inl ⟨by rfl, ?_⟩) (by assumption) ?_
  rotate_left
  · intro w hSw; (try dsimp only at hSw); go_simp <;> with_reducible rfl
  try simp only [Act.put, List.setIfInBounds_toArray, List.set_cons_zero, List.set_cons_succ]
  refine wpAnyH_take (i := 9) (oi := { dst := some 65, op := Op.load 26 (Operand.tmp 5), type := 26, pos := "laws.go:769", after := #[{ on := 8, ground := Ground.guard }], guard := some (8, false) }) (v := ?_) rfl (by kernel_rfl) (by kernel_rfl) (by kernel_rfl) (fun _ _ _ h => h) (Or.inl ⟨by rfl, ?_⟩) (by assumption) ?_
  rotate_left
  · intro w hSw; (try dsimp only at hSw); go_simp <;> with_reducible rfl
  try simp only [Act.put, List.setIfInBounds_toArray, List.set_cons_zero, List.set_cons_succ]
  refine wpAnyH_ready (rs := [10]) (by kernel_rfl) (by simp) ?_
  refine AllReadyH.cons (o := { dst := some 66, op := Op.call { callee := Callee.value (Operand.func 14), args := #[Operand.tmp 65], argTypes := #[26] }, type := 4, pos := "laws.go:769", after := #[{ on := 9, ground := Ground.data }, { on := 8, ground := Ground.chain }, { on := 8, ground := Ground.guard }], guard := some (8, false) }) rfl (fun K hK => ?_) AllReadyH.nil
  go_simp
  (first | (go_at_call 17; go_fit (unhide EN _ (unhide hHeld.1)); rintro r wn ⟨rfl, hbn⟩; have sn := unhide hS12 _ (below_two (unhide hHeld.1) hbn)) | (go_at_call 14; go_fit (unhide EOk _ (unhide hHeld.1)); rintro r wn ⟨rfl, hbn⟩; have sn := unhide hS12 _ (below_two (unhide hHeld.1) hbn)))
  refine hK.out _ _ ?_ (fun hHeld => ?_)
  · with_reducible exact sn
  clear hK K
  try simp only [Act.put, List.setIfInBounds_toArray, List.set_cons_zero, List.set_cons_succ]
  refine wpAnyH_take (i := 11) (oi := { dst := some 67, op := Op.unOp UnOp.not 4 (Operand.tmp 66), type := 4, pos := "laws.go:769", after := #[{ on := 10, ground := Ground.data }, { on := 8, ground := Ground.guard }], guard := some (8, false) }) (v := ?_) rfl (by kernel_rfl) (by kernel_rfl) (by kernel_rfl) (fun _ _ _ h => h) (Or.inl ⟨by rfl, ?_⟩) (by assumption) ?_
  rotate_left
  · intro w hSw; (try dsimp only at hSw); go_simp <;> with_reducible rfl
  try simp only [Act.put, List.setIfInBounds_toArray, List.set_cons_zero, List.set_cons_succ]
  refine wpAnyH_take (i := 12) (oi := { dst := some 68, op := Op.pick (Operand.tmp 64) (Operand.const (Value.bool true)) (Operand.tmp 67), type := 4, pos := "laws.go:769", after := #[{ on := 8, ground := Ground.data }, { on := 11, ground := Ground.data }], guard := none }) (v := ?_) rfl (by kernel_rfl) (by kernel_rfl) (by kernel_rfl) (fun _ _ _ h => h) (Or.inl ⟨by rfl, ?_⟩) (by assumption) ?_
  rotate_left
  · intro w hSw; (try dsimp only at hSw); go_simp <;> with_reducible rfl
  try simp only [Act.put, List.setIfInBounds_toArray, List.set_cons_zero, List.set_cons_succ]
  refine wpAnyH_done (by kernel_rfl) ?_ _
  have BU12 := hide (unhide hHeld.1)
  clear hHeld sn hRA hRX EN EOk hS12
  replace R3s := hide (row_next (unhide BU12) (unhide R3s))
  replace R5s := hide (row_next (unhide BU12) (unhide R5s))
  replace SCs := hide ((unhide SCs).next (unhide BU12))
  replace SGs := hide ((unhide SGs).next (unhide BU12))
  replace ETs := hide ((unhide ETs).next (unhide BU12))
  have BY := hide (fun u hu => unhide BU u (below_two (unhide BU12) hu))
  clear RR2 NN2 BU BU12 NA xxin NDs R4s
  go_upto_region 14 with fail
  generalize wn = Y at R3s R5s SCs SGs ETs BY ⊢
  have RR2 := hide (fun u (hu : Below Y.heap.size Y u) => row1 (row_next hu (unhide R3s)))
  have NN2 := hide (fun u (hu : Below Y.heap.size Y u) i hi => ((unhide SCs).nodes i hi).next hu)
  have hRK := hide (fun u (hu : Below Y.heap.size Y u) => show u.rangeAt b (o + k * 31) (ndC (X k) (A k)).toList by
    obtain ⟨b', o', e, h⟩ := (unhide NN2 u hu k hk).range
    cases e
    exact h)
  have ESb := hide (fun u (hu : Below Y.heap.size Y u) => (implSetNode_any (upd X k xx) A1 (some ⟨ga, 0, none⟩) n ca hn (unhide SGs).cap.1 (unhide SGs).cap.2 (right_small (unhide hS')) (unhide SGs).caps (right_wf (unhide hS')) (X k) (A k) (unhide hsm k hk) (unhide hcp k hk) u (fun i hi => ((unhide SGs).nodes i hi).next hu) (unhide NN2 u hu k hk).inn ((unhide ETs).next hu)).mono fun r w' h => show ∃ (pc : Option Addr) (cc : Nat) (A9 : Nat → Na), r = .returned (.tuple #[.agg #[.slice pc n cc], .int .i64 0]) ∧ (∀ i, i < n → NrAt w' pc i (X i) (A9 i)) ∧ Below u.heap.size u w' by
    rw [unhide hc1, unhide hx1] at h
    obtain ⟨pc, cc, A9, h1, h2, h3⟩ := h
    exact ⟨pc, cc, A9, h1, h2.nodes, h3⟩)
  obtain ⟨xk, hxk⟩ : ∃ z, Hid (X k = z) := ⟨_, rfl⟩
  obtain ⟨sk, hsk⟩ : ∃ z, Hid (A k = z) := ⟨_, rfl⟩
  rw [unhide hxk, unhide hsk] at hRK ESb
  have hS14 := hide (fun u (hu : Below Y.heap.size Y u) => show Hid (Below Y.heap.size Y u) ∧ u.cell? ⟨b3, 0, none⟩ = some (.slice (some ⟨b, o, none⟩) n c) ∧ u.cell? ⟨b5, 0, none⟩ = some (.slice (some ⟨ga, 0, none⟩) n ca) from ⟨hu, unhide RR2 u hu, row1 (row_next hu (unhide R5s))⟩)
  clear hxk hsk hxx hyp
  refine wp_region_held_drew (S := (fun u => Hid (Below Y.heap.size Y u) ∧ u.cell? ⟨b3, 0, none⟩ = some (.slice (some ⟨b, o, none⟩) n c) ∧ u.cell? ⟨b5, 0, none⟩ = some (.slice (some ⟨ga, 0, none⟩) n ca))) (by kernel_rfl) ?_ (fun hHeld => ?_)
  · exact unhide hS14 _ (Below.refl _ _).drew
  have HU := hide (show Below Y.heap.size Y Y.drew from (Below.refl _ _).drew)
  have HU0 := HU
  generalize Y.drew = V14 at HU HU0 hHeld ⊢
  refine wpAnyH_take (i := 0) (oi := { dst := some 70, op := Op.load 26 (Operand.tmp 5), type := 26, pos := "laws.go:772", after := #[], guard := none }) (v := ?_) rfl (by kernel_rfl) (by kernel_rfl) (by kernel_rfl) (fun _ _ _ h => h) (Or.inl ⟨by rfl, ?_⟩) (by assumption) ?_
  rotate_left
  · intro w hSw; (try dsimp only at hSw); go_simp <;> with_reducible rfl
  try simp only [Act.put, List.setIfInBounds_toArray, List.set_cons_zero, List.set_cons_succ]
  refine wpAnyH_take (i := 1) (oi := { dst := some 71, op := Op.fieldAddr 26 (Operand.tmp 3) 0, type := 0, pos := "laws.go:772", after := #[], guard := none }) (v := ?_) rfl (by kernel_rfl) (by kernel_rfl) (by kernel_rfl) (fun _ _ _ h => h) (Or.inl ⟨by rfl, ?_⟩) (by assumption) ?_
  rotate_left
  · intro w hSw; (try dsimp only at hSw); go_simp <;> with_reducible rfl
  try simp only [Act.put, List.setIfInBounds_toArray, List.set_cons_zero, List.set_cons_succ]
  refine wpAnyH_take (i := 2) (oi := { dst := some 72, op := Op.load 24 (Operand.tmp 71), type := 24, pos := "laws.go:772", after := #[{ on := 1, ground := Ground.data }], guard := none }) (v := ?_) rfl (by kernel_rfl) (by kernel_rfl) (by kernel_rfl) (fun _ _ _ h => h) (Or.inl ⟨by rfl, ?_⟩) (by assumption) ?_
  rotate_left
  · intro w hSw; (try dsimp only at hSw); go_simp <;> with_reducible rfl
  try simp only [Act.put, List.setIfInBounds_toArray, List.set_cons_zero, List.set_cons_succ]
  refine wpAnyH_take (i := 3) (oi := { dst := some 73, op := Op.move (Operand.tmp 9), type := 3, pos := "laws.go:772", after := #[], guard := none }) (v := ?_) rfl (by kernel_rfl) (by kernel_rfl) (by kernel_rfl) (fun _ _ _ h => h) (Or.inl ⟨by rfl, ?_⟩) (by assumption) ?_
  rotate_left
  · intro w hSw; (try dsimp only at hSw); go_simp <;> with_reducible rfl
  try simp only [Act.put, List.setIfInBounds_toArray, List.set_cons_zero, List.set_cons_succ]
  refine wpAnyH_take (i := 4) (oi := { dst := some 74, op := Op.indexAddr 24 (Operand.tmp 72) (Operand.tmp 73), type := 0, pos := "laws.go:772", after := #[{ on := 2, ground := Ground.data }, { on := 3, ground := Ground.data }], guard := none }) (v := ?_) rfl (by kernel_rfl) (by kernel_rfl) (by kernel_rfl) (fun _ _ _ h => h) (Or.inl ⟨by rfl, ?_⟩) (by assumption) ?_
  rotate_left
  · intro w hSw; (try dsimp only at hSw); go_simp <;> with_reducible rfl
  try simp only [Act.put, List.setIfInBounds_toArray, List.set_cons_zero, List.set_cons_succ]
  refine wpAnyH_take (i := 5) (oi := { dst := some 75, op := Op.load 41 (Operand.tmp 74), type := 41, pos := "laws.go:772", after := #[{ on := 4, ground := Ground.data }], guard := none }) (v := .agg (ndC xk sk)) rfl (by kernel_rfl) (by kernel_rfl) (by kernel_rfl) (fun _ _ _ h => h) (yields_inode rfl _ rfl b (o + k * 31) rfl xk sk (fun u hu => unhide hRK u (unhide hu.1))) (by assumption) ?_
  try simp only [Act.put, List.setIfInBounds_toArray, List.set_cons_zero, List.set_cons_succ]
  refine wpAnyH_ready (rs := [6, 10]) (by kernel_rfl) (by simp) ?_
  refine AllReadyH.cons (o := { dst := some 76, op := Op.call { callee := Callee.value (Operand.func 24), args := #[Operand.tmp 70, Operand.tmp 75], argTypes := #[26, 41] }, type := 43, pos := "laws.go:772", after := #[{ on := 0, ground := Ground.data }, { on := 5, ground := Ground.data }], guard := none }) rfl (fun K hK => ?_) ?_
  · go_simp
    (go_at_call 24; go_fit (unhide ESb _ (unhide HU)); rintro r VA ⟨pc, cc, A9, rfl, hN9, hb9⟩)
    replace HU := hide (below_two (unhide HU) hb9)
    have P9 := hide hN9
    have HU0 := HU
    clear hb9 hN9
    refine hK.out _ _ ?_ (fun hHeld => ?_)
    · exact unhide hS14 _ (unhide HU)
    clear hK K
    try simp only [Act.put, List.setIfInBounds_toArray, List.set_cons_zero, List.set_cons_succ]
    refine wpAnyH_take (i := 7) (oi := { dst := some 69, op := Op.move (Operand.tmp 76), type := 43, pos := "laws.go:772", after := #[{ on := 6, ground := Ground.data }], guard := none }) (v := ?_) rfl (by kernel_rfl) (by kernel_rfl) (by kernel_rfl) (fun _ _ _ h => h) (Or.inl ⟨by rfl, ?_⟩) (by assumption) ?_
    rotate_left
    · intro w hSw; (try dsimp only at hSw); go_simp <;> with_reducible rfl
    try simp only [Act.put, List.setIfInBounds_toArray, List.set_cons_zero, List.set_cons_succ]
    refine wpAnyH_take (i := 8) (oi := { dst := some 77, op := Op.extract (Operand.tmp 69) 0, type := 26, pos := "laws.go:772", after := #[{ on := 7, ground := Ground.data }], guard := none }) (v := ?_) rfl (by kernel_rfl) (by kernel_rfl) (by kernel_rfl) (fun _ _ _ h => h) (Or.inl ⟨by rfl, ?_⟩) (by assumption) ?_
    rotate_left
    · intro w hSw; (try dsimp only at hSw); go_simp <;> with_reducible rfl
    try simp only [Act.put, List.setIfInBounds_toArray, List.set_cons_zero, List.set_cons_succ]
    refine wpAnyH_take (i := 9) (oi := { dst := some 78, op := Op.extract (Operand.tmp 69) 1, type := 3, pos := "laws.go:772", after := #[{ on := 7, ground := Ground.data }, { on := 11, ground := Ground.gcOnly Departure.lateStores }], guard := none }) (v := ?_) rfl (by kernel_rfl) (by kernel_rfl) (by kernel_rfl) (fun _ _ _ h => h) (Or.inl ⟨by rfl, ?_⟩) (by assumption) ?_
    rotate_left
    · intro w hSw; (try dsimp only at hSw); go_simp <;> with_reducible rfl
    try simp only [Act.put, List.setIfInBounds_toArray, List.set_cons_zero, List.set_cons_succ]
    refine wpAnyH_ready (rs := [10]) (by kernel_rfl) (by simp) ?_
    refine AllReadyH.cons (o := { dst := some 10, op := Op.alloc 26, type := 0, pos := "laws.go:772", after := #[], guard := none }) rfl (fun K hK => ?_) AllReadyH.nil
    go_simp
    replace HU := hide (below_two (unhide HU) (al1_below VA (.cells #[.slice none 0 0] 26)))
    have R10 := hide (new_row VA (.cells #[.slice none 0 0] 26))
    have l10 := hide (show Y.heap.size ≤ VA.heap.size from (unhide HU0).size)
    replace P9 := hide (fun i hi => (unhide P9 i hi).next (al1_below VA (.cells #[.slice none 0 0] 26)))
    generalize VA.alloc (.cells #[.slice none 0 0] 26) = VB at HU R10 P9 ⊢
    generalize VA.heap.size = b10 at R10 l10 ⊢
    have HU0 := HU
    refine hK.out _ _ ?_ (fun hHeld => ?_)
    · exact unhide hS14 _ (unhide HU)
    clear hK K
    try simp only [Act.put, List.setIfInBounds_toArray, List.set_cons_zero, List.set_cons_succ]
    refine wpAnyH_ready (rs := [11]) (by kernel_rfl) (by simp) ?_
    refine AllReadyH.cons (o := { dst := none, op := Op.store 26 (Operand.tmp 10) (Operand.tmp 77), type := 0, pos := "laws.go:772", after := #[{ on := 10, ground := Ground.data }, { on := 8, ground := Ground.data }, { on := 6, ground := Ground.chain }, { on := 0, ground := Ground.phase }, { on := 1, ground := Ground.phase }, { on := 2, ground := Ground.phase }, { on := 3, ground := Ground.phase }, { on := 4, ground := Ground.phase }, { on := 5, ground := Ground.phase }, { on := 6, ground := Ground.phase }, { on := 7, ground := Ground.phase }, { on := 8, ground := Ground.phase }, { on := 9, ground := Ground.textOnly Departure.lateStores }, { on := 10, ground := Ground.phase }], guard := none }) rfl (fun K hK => ?_) AllReadyH.nil
    have cb := row1 (unhide R10)
    have fb := frozen_of_row VB b10 0 _ _ (unhide R10)
    go_simp
    have R10x := hide (show (VB.setCell ⟨b10, 0, none⟩ (.slice pc n cc)).heap[b10]? = some (.cells #[.slice pc n cc] 26 (0, 0)) by have := setC (v := .slice pc n cc) (j := 0) (unhide R10); simpa using this)
    replace HU := hide ((unhide HU).setCell (p := ⟨b10, 0, none⟩) (unhide l10) (.slice pc n cc))
    replace P9 := hide (fun i hi => (unhide P9 i hi).put (v := .slice pc n cc) (unhide R10))
    clear cb fb R10
    have R10 := R10x
    generalize (VB.setCell ⟨b10, 0, none⟩ (.slice pc n cc)) = WL at R10 HU P9 ⊢
    refine hK.out _ _ ?_ (fun hHeld => ?_)
    · exact unhide hS14 _ (unhide HU)
    clear hK K
    try simp only [Act.put, List.setIfInBounds_toArray, List.set_cons_zero, List.set_cons_succ]
    refine wpAnyH_take (i := 12) (oi := { dst := some 11, op := Op.assign (Operand.tmp 78), type := 3, pos := "laws.go:772", after := #[{ on := 9, ground := Ground.data }, { on := 11, ground := Ground.chain }, { on := 0, ground := Ground.phase }, { on := 1, ground := Ground.phase }, { on := 2, ground := Ground.phase }, { on := 3, ground := Ground.phase }, { on := 4, ground := Ground.phase }, { on := 5, ground := Ground.phase }, { on := 6, ground := Ground.phase }, { on := 7, ground := Ground.phase }, { on := 8, ground := Ground.phase }, { on := 9, ground := Ground.phase }, { on := 10, ground := Ground.phase }, { on := 11, ground := Ground.phase }], guard := none }) (v := ?_) rfl (by kernel_rfl) (by kernel_rfl) (by kernel_rfl) (fun _ _ _ h => h) (Or.inl ⟨by rfl, ?_⟩) (by assumption) ?_
    rotate_left
    · intro w hSw; (try dsimp only at hSw); go_simp <;> with_reducible rfl
    try simp only [Act.put, List.setIfInBounds_toArray, List.set_cons_zero, List.set_cons_succ]
    refine wpAnyH_done (by kernel_rfl) ?_ _
    have ESe := hide (sameScene_same X A9 A pc (some ⟨b, o, none⟩) n cc c hn (unhide hsm) WL (unhide P9) (unhide NN2 _ (unhide HU)))
    have d3 := unhide RR2 _ (unhide HU)
    have d10 := row1 (unhide R10)
    go_wp2_with fail
    go_fit (unhide ESe)
    rintro r w9 ⟨rfl, hb9⟩
    go_wp2_with fail
    go_ret
    exact ⟨rfl, unhide BY _ (below_two (unhide HU) hb9)⟩
  refine AllReadyH.cons (o := { dst := some 10, op := Op.alloc 26, type := 0, pos := "laws.go:772", after := #[], guard := none }) rfl (fun K hK => ?_) ?_
  · go_simp
    replace HU := hide (below_two (unhide HU) (al1_below V14 (.cells #[.slice none 0 0] 26)))
    have R10 := hide (new_row V14 (.cells #[.slice none 0 0] 26))
    have l10 := hide (show Y.heap.size ≤ V14.heap.size from (unhide HU0).size)
    generalize V14.alloc (.cells #[.slice none 0 0] 26) = VA at HU R10 ⊢
    generalize V14.heap.size = b10 at R10 l10 ⊢
    have HU0 := HU
    refine hK.out _ _ ?_ (fun hHeld => ?_)
    · exact unhide hS14 _ (unhide HU)
    clear hK K
    try simp only [Act.put, List.setIfInBounds_toArray, List.set_cons_zero, List.set_cons_succ]
    refine wpAnyH_ready (rs := [6]) (by kernel_rfl) (by simp) ?_
    refine AllReadyH.cons (o := { dst := some 76, op := Op.call { callee := Callee.value (Operand.func 24), args := #[Operand.tmp 70, Operand.tmp 75], argTypes := #[26, 41] }, type := 43, pos := "laws.go:772", after := #[{ on := 0, ground := Ground.data }, { on := 5, ground := Ground.data }], guard := none }) rfl (fun K hK => ?_) AllReadyH.nil
    go_simp
    (go_at_call 24; go_fit (unhide ESb _ (unhide HU)); rintro r VB ⟨pc, cc, A9, rfl, hN9, hb9⟩)
    replace R10 := hide (row_next hb9 (unhide R10))
    replace HU := hide (below_two (unhide HU) hb9)
    have P9 := hide hN9
    have HU0 := HU
    clear hb9 hN9
    refine hK.out _ _ ?_ (fun hHeld => ?_)
    · exact unhide hS14 _ (unhide HU)
    clear hK K
    try simp only [Act.put, List.setIfInBounds_toArray, List.set_cons_zero, List.set_cons_succ]
    refine wpAnyH_take (i := 7) (oi := { dst := some 69, op := Op.move (Operand.tmp 76), type := 43, pos := "laws.go:772", after := #[{ on := 6, ground := Ground.data }], guard := none }) (v := ?_) rfl (by kernel_rfl) (by kernel_rfl) (by kernel_rfl) (fun _ _ _ h => h) (Or.inl ⟨by rfl, ?_⟩) (by assumption) ?_
    rotate_left
    · intro w hSw; (try dsimp only at hSw); go_simp <;> with_reducible rfl
    try simp only [Act.put, List.setIfInBounds_toArray, List.set_cons_zero, List.set_cons_succ]
    refine wpAnyH_take (i := 8) (oi := { dst := some 77, op := Op.extract (Operand.tmp 69) 0, type := 26, pos := "laws.go:772", after := #[{ on := 7, ground := Ground.data }], guard := none }) (v := ?_) rfl (by kernel_rfl) (by kernel_rfl) (by kernel_rfl) (fun _ _ _ h => h) (Or.inl ⟨by rfl, ?_⟩) (by assumption) ?_
    rotate_left
    · intro w hSw; (try dsimp only at hSw); go_simp <;> with_reducible rfl
    try simp only [Act.put, List.setIfInBounds_toArray, List.set_cons_zero, List.set_cons_succ]
    refine wpAnyH_take (i := 9) (oi := { dst := some 78, op := Op.extract (Operand.tmp 69) 1, type := 3, pos := "laws.go:772", after := #[{ on := 7, ground := Ground.data }, { on := 11, ground := Ground.gcOnly Departure.lateStores }], guard := none }) (v := ?_) rfl (by kernel_rfl) (by kernel_rfl) (by kernel_rfl) (fun _ _ _ h => h) (Or.inl ⟨by rfl, ?_⟩) (by assumption) ?_
    rotate_left
    · intro w hSw; (try dsimp only at hSw); go_simp <;> with_reducible rfl
    try simp only [Act.put, List.setIfInBounds_toArray, List.set_cons_zero, List.set_cons_succ]
    refine wpAnyH_ready (rs := [11]) (by kernel_rfl) (by simp) ?_
    refine AllReadyH.cons (o := { dst := none, op := Op.store 26 (Operand.tmp 10) (Operand.tmp 77), type := 0, pos := "laws.go:772", after := #[{ on := 10, ground := Ground.data }, { on := 8, ground := Ground.data }, { on := 6, ground := Ground.chain }, { on := 0, ground := Ground.phase }, { on := 1, ground := Ground.phase }, { on := 2, ground := Ground.phase }, { on := 3, ground := Ground.phase }, { on := 4, ground := Ground.phase }, { on := 5, ground := Ground.phase }, { on := 6, ground := Ground.phase }, { on := 7, ground := Ground.phase }, { on := 8, ground := Ground.phase }, { on := 9, ground := Ground.textOnly Departure.lateStores }, { on := 10, ground := Ground.phase }], guard := none }) rfl (fun K hK => ?_) AllReadyH.nil
    have cb := row1 (unhide R10)
    have fb := frozen_of_row VB b10 0 _ _ (unhide R10)
    go_simp
    have R10x := hide (show (VB.setCell ⟨b10, 0, none⟩ (.slice pc n cc)).heap[b10]? = some (.cells #[.slice pc n cc] 26 (0, 0)) by have := setC (v := .slice pc n cc) (j := 0) (unhide R10); simpa using this)
    replace HU := hide ((unhide HU).setCell (p := ⟨b10, 0, none⟩) (unhide l10) (.slice pc n cc))
    replace P9 := hide (fun i hi => (unhide P9 i hi).put (v := .slice pc n cc) (unhide R10))
    clear cb fb R10
    have R10 := R10x
    generalize (VB.setCell ⟨b10, 0, none⟩ (.slice pc n cc)) = WL at R10 HU P9 ⊢
    refine hK.out _ _ ?_ (fun hHeld => ?_)
    · exact unhide hS14 _ (unhide HU)
    clear hK K
    try simp only [Act.put, List.setIfInBounds_toArray, List.set_cons_zero, List.set_cons_succ]
    refine wpAnyH_take (i := 12) (oi := { dst := some 11, op := Op.assign (Operand.tmp 78), type := 3, pos := "laws.go:772", after := #[{ on := 9, ground := Ground.data }, { on := 11, ground := Ground.chain }, { on := 0, ground := Ground.phase }, { on := 1, ground := Ground.phase }, { on := 2, ground := Ground.phase }, { on := 3, ground := Ground.phase }, { on := 4, ground := Ground.phase }, { on := 5, ground := Ground.phase }, { on := 6, ground := Ground.phase }, { on := 7, ground := Ground.phase }, { on := 8, ground := Ground.phase }, { on := 9, ground := Ground.phase }, { on := 10, ground := Ground.phase }, { on := 11, ground := Ground.phase }], guard := none }) (v := ?_) rfl (by kernel_rfl) (by kernel_rfl) (by kernel_rfl) (fun _ _ _ h => h) (Or.inl ⟨by rfl, ?_⟩) (by assumption) ?_
    rotate_left
    · intro w hSw; (try dsimp only at hSw); go_simp <;> with_reducible rfl
    try simp only [Act.put, List.setIfInBounds_toArray, List.set_cons_zero, List.set_cons_succ]
    refine wpAnyH_done (by kernel_rfl) ?_ _
    have ESe := hide (sameScene_same X A9 A pc (some ⟨b, o, none⟩) n cc c hn (unhide hsm) WL (unhide P9) (unhide NN2 _ (unhide HU)))
    have d3 := unhide RR2 _ (unhide HU)
    have d10 := row1 (unhide R10)
    go_wp2_with fail
    go_fit (unhide ESe)
    rintro r w9 ⟨rfl, hb9⟩
    go_wp2_with fail
    go_ret
    exact ⟨rfl, unhide BY _ (below_two (unhide HU) hb9)⟩
  exact AllReadyH.nil
end Go.Proofs.YtmafopckplpajaaGreatDoor
