/-
  CreatesL · SetsL: texts of one claim, in one.
-/
import Derived.Test.YtmafopckplpajaaGreatDoorFnSetsM8
import Derived.Test.YtmafopckplpajaaGreatDoorFnSetsM14
import Derived.Test.YtmafopckplpajaaGreatDoorFnSetsM12
import Derived.Test.YtmafopckplpajaaGreatDoorFnSetsM9
import Derived.Deep.RegionHeld3
import Derived.Deep.DeepCutAuto
import Derived.Deep.DeepFit
import Derived.Test.YtmafopckplpajaaGreatDoorFnSetsM11
import Derived.Test.YtmafopckplpajaaGreatDoorFnSetsM10

/-
  FnCreates: a node that is put into a drawn scene is there; what is refused changes nothing; dropped it is gone, with all below it, and all else stays. (By createslaw.py.)
-/
namespace Go.Proofs.YtmafopckplpajaaGreatDoor
open Go.RowKit
set_option linter.unusedVariables false

theorem right_small {X : Nat → Nd} {n : Nat} (hS : ScOk X n) : ∀ i, i < n → (X i).Small := fun i hi => node_small (okAt_iff.1 (hS.2 i hi)).1
theorem right_wf {X : Nat → Nd} {n : Nat} (hS : ScOk X n) : Wf X n :=
  ⟨fun i hi => WalkArith.wf_i64 (by have := (node_ids (okAt_iff.1 (hS.2 i hi)).1).1; omega), fun i hi => WalkArith.wf_i64 (by have := (node_ids (okAt_iff.1 (hS.2 i hi)).1).2.1; omega)⟩
theorem ok_call (X : Nat → Nd) (A : Nat → Na) (ao : Option Addr) (n cp : Nat) (hS : ScOk X n) (w : World) (P : ∀ i, i < n → NrAt w ao i (X i) (A i)) :
    Calls Tryz.prog 14 #[.agg #[.slice ao n cp]] w fun r w' => r = .returned (.bool true) ∧ Below w.heap.size w w' :=
  (implSceneOk_any X A ao n cp (by have := hS.1; omega) (right_small hS) (right_wf hS).id (right_wf hS).par w P).mono fun r w' h => by rw [sceneOk_iff.2 hS] at h; exact h
end Go.Proofs.YtmafopckplpajaaGreatDoor

/-
  FnSets: a node of a drawn scene that is set is what it was told, but its parent; all else stays. (By setslaw.py.)
-/
namespace Go.Proofs.YtmafopckplpajaaGreatDoor
open Go.RowKit
set_option linter.unusedVariables false

theorem set_small {X : Nat → Nd} {n : Nat} {x : Nd} (hs : ∀ i, i < n → (X i).Small) (hx : x.Small) : ∀ i, i < n → (setX X n x i).Small := fun i hi => by
  unfold setX
  split
  · by_cases e : i = (firstN X x.id n).toNat
    · rw [e, upd_at]; exact par_fit _ _ hx
    · rw [upd_ne _ _ e]; exact hs i hi
  · exact hs i hi

set_option maxHeartbeats 16000000 in
set_option maxRecDepth 100000 in
theorem fnSets_walk (a0 : Option Addr) (len0 cap0 : Nat) (z0 : List Int) (w : World) (w0 : IsRow .u8 w a0 len0 cap0 z0) (hg : ErrT w) :
    Calls Tryz.prog 5 #[.slice a0 len0 cap0] w fun e w' => e = .returned (.bool true) ∧ Below w.heap.size w w' := by
  by_cases hl : len0 ≤ 1048576
  rotate_left
  · go_enter Tryz.func5, Tryz.ntmps5
    go_wp2_with (go_at_call 9; go_must (refine (big_yes a0 len0 cap0 hl _).mono ?_); rintro e w1 ⟨rfl, rfl⟩)
    go_ret
    exact ⟨rfl, Below.refl _ _⟩
  have HI := hide (InB.of_row w0)
  have lw := hide (show 0 < w.heap.size by
    have h := hg
    unfold ErrT at h
    rcases Nat.eq_zero_or_pos w.heap.size with h0 | h'
    · simp [World.cell?, h0] at h
    · exact h')
  replace hg := hide hg
  clear w0
  go_enter Tryz.func5, Tryz.ntmps5
  go_wp2_with fail
  refine (big_no a0 len0 cap0 hl _).mono ?_
  rintro e w1 ⟨rfl, hw⟩
  rw [hw]
  clear hw w1
  go_wp2_with fail
  refine (drawSetNode_any a0 len0 cap0 _ hl (unhide HI)).mono ?_
  rintro e w2 ⟨n, p, c, X, A, q, x, s, base, rfl, hn9, SC, ND, hb⟩
  have h4 := hide (al2_1 w2 (.cells #[.slice p n c] 26) (.cells #[.int .i64 0, .int .i64 0, .bool false, .int .i64 0, .int .i64 0, .int .i64 0, .int .i64 0, .int .i64 0, .int .i64 0, .slice none 0 0, .slice none 0 0, .bool false, .int .i64 0, .slice none 0 0, .int .i64 0, .int .i64 0, .int .i64 0, .int .i64 0, .int .i64 0, .int .i64 0, .int .i64 0, .int .i64 0, .int .i64 0, .int .i64 0, .int .i64 0, .int .i64 0, .int .i64 0, .int .i64 0, .int .i64 0, .slice none 0 0, .slice none 0 0] 41))
  go_upto_region 4 with (guard_target =~ wpList _ _ _ ({ dst := none, op := Op.store 41 _ _, type := _, pos := _, after := _, guard := _} :: _) _ _; refine wpList_store_row rfl 41 _ _ rfl (w2.heap.size + 1) (ndC x s) rfl rfl 41 _ (unhide h4) (ndC_info x s) (by rw [ndC_size]; rfl) (ndC_one x s) ?_)
  have R3 := hide (row_kept (setRow_grown ((w2.alloc (.cells #[.slice p n c] 26)).alloc (.cells #[.int .i64 0, .int .i64 0, .bool false, .int .i64 0, .int .i64 0, .int .i64 0, .int .i64 0, .int .i64 0, .int .i64 0, .slice none 0 0, .slice none 0 0, .bool false, .int .i64 0, .slice none 0 0, .int .i64 0, .int .i64 0, .int .i64 0, .int .i64 0, .int .i64 0, .int .i64 0, .int .i64 0, .int .i64 0, .int .i64 0, .int .i64 0, .int .i64 0, .int .i64 0, .int .i64 0, .int .i64 0, .int .i64 0, .slice none 0 0, .slice none 0 0] 41)) (w2.heap.size + 1) (ndC x s)) (Nat.ne_of_lt (Nat.lt_succ_self w2.heap.size)) (al2_0 w2 (.cells #[.slice p n c] 26) (.cells #[.int .i64 0, .int .i64 0, .bool false, .int .i64 0, .int .i64 0, .int .i64 0, .int .i64 0, .int .i64 0, .int .i64 0, .slice none 0 0, .slice none 0 0, .bool false, .int .i64 0, .slice none 0 0, .int .i64 0, .int .i64 0, .int .i64 0, .int .i64 0, .int .i64 0, .int .i64 0, .int .i64 0, .int .i64 0, .int .i64 0, .int .i64 0, .int .i64 0, .int .i64 0, .int .i64 0, .int .i64 0, .int .i64 0, .slice none 0 0, .slice none 0 0] 41)))
  have R4 := hide (setRow_row (C := ndC x s) (unhide h4))
  have bV := hide (below_setRow (g := w2.heap.size + 1) (al2_below w2 (.cells #[.slice p n c] 26) (.cells #[.int .i64 0, .int .i64 0, .bool false, .int .i64 0, .int .i64 0, .int .i64 0, .int .i64 0, .int .i64 0, .int .i64 0, .slice none 0 0, .slice none 0 0, .bool false, .int .i64 0, .slice none 0 0, .int .i64 0, .int .i64 0, .int .i64 0, .int .i64 0, .int .i64 0, .int .i64 0, .int .i64 0, .int .i64 0, .int .i64 0, .int .i64 0, .int .i64 0, .int .i64 0, .int .i64 0, .int .i64 0, .int .i64 0, .slice none 0 0, .slice none 0 0] 41)) (Nat.le_succ w2.heap.size) (ndC x s))
  obtain ⟨b4, hb4⟩ : ∃ b, Hid (b = w2.heap.size + 1) := ⟨_, rfl⟩
  obtain ⟨b3, hb3⟩ : ∃ b, Hid (b = w2.heap.size) := ⟨_, rfl⟩
  have lb := hide (show b3 < b4 ∧ w.heap.size ≤ b3 by have := hb.size; rw [unhide hb3, unhide hb4]; omega)
  have ltS := hide (show (∀ k, (Value.slice p n c).ownBlock = some k → k < b4) ∧ ∀ j, j < n → ∀ l, l < 5 → 0 < lnl (X j) l → ∀ k, (lvl (X j) (A j) l).ownBlock = some k → k < b4 by have h := SC.lt; rw [unhide hb4]; exact ⟨fun k e => by have := h.1 k e; omega, fun j hj l hl h0 k e => by have := h.2 j hj l hl h0 k e; omega⟩)
  have ltX := hide (show ∀ l, l < 5 → 0 < lnl x l → ∀ k, (lvl x s l).ownBlock = some k → k < b4 from fun l hl h0 k e => by have := ND.inn.lt hl h0 k e; rw [unhide hb4]; omega)
  replace SC := hide (SC.next (unhide bV))
  replace ND := hide (ND.next (unhide bV))
  have HB := hide (below_two hb (unhide bV))
  rw [← unhide hb4] at R3 R4 SC ND HB
  rw [← unhide hb3] at R3
  rw [← unhide hb4, ← unhide hb3]
  clear hb bV h4 hb3 hb4 HI
  generalize World.setRow _ b4 (ndC x s) = V at R3 R4 SC ND HB ⊢
  have RR := hide (fun u (hu : Below V.heap.size V u) => row1 (row_next hu (unhide R3)))
  have R4N := hide (fun u (hu : Below V.heap.size V u) => row_next hu (unhide R4))
  have NN := hide (fun u (hu : Below V.heap.size V u) i hi => ((unhide SC).nodes i hi).next hu)
  have ET := hide (fun u (hu : Below V.heap.size V u) => (unhide hg).next (below_two (unhide HB) hu))
  have hn : n ≤ 1048576 := by omega
  have hsm := hide (show ∀ i, i < n → (X i).Small from fun i hi => ((unhide SC).f i hi).small)
  have hcp := hide (show ∀ i, i < n → Caps (X i) (A i) from fun i hi => ((unhide SC).f i hi).caps)
  have hwf := hide (show Wf X n from ⟨fun i hi => ((unhide SC).f i hi).wid, fun i hi => ((unhide SC).f i hi).wpar⟩)
  have hnc := hide (show n ≤ c ∧ (p = none → c = 0) by obtain ⟨ys, h1, _⟩ := (unhide SC).row; exact own_caps h1)
  have E1 := hide (fun u (hu : Below V.heap.size V u) => implSetNode_any X A p n c hn (unhide hnc).1 (unhide hnc).2 (unhide hsm) (unhide hcp) (unhide hwf) x s (unhide ND).small (unhide ND).caps u (unhide NN u hu) ((unhide ND).inn.next hu) (unhide ET u hu))
  have E2 := hide (fun u (hu : Below V.heap.size V u) => specSetNode_any X A p n c hn (unhide hsm) (unhide hcp) x s (unhide ND).small (unhide ND).caps u (unhide NN u hu) ((unhide ND).inn.next hu))
  have hsY := hide (set_small (unhide hsm) (unhide ND).small)
  have cc := unhide RR _ (Below.refl _ _)
  go_wp2_with (with_reducible refine load_own rfl _ rfl b4 rfl x s 41 (unhide R4) ?_)
  go_fit (unhide E1 _ (Below.refl _ _))
  rintro r u1 ⟨pa, ca, A1, rfl, SG1, hb1⟩
  clear cc E1
  go_upto_region 5 with fail
  have R5 := hide (new_row u1 (.cells #[.slice pa n ca] 26))
  have BB := hide (below_two hb1 (al1_below u1 (.cells #[.slice pa n ca] 26)))
  replace SG1 := hide ((SG1.next (al1_below u1 (.cells #[.slice pa n ca] 26))).high (show u1.heap.size ≤ u1.heap.size from Nat.le_refl _))
  have l5 := hide (show V.heap.size ≤ u1.heap.size from hb1.size)
  clear hb1
  generalize u1.alloc (.cells #[.slice pa n ca] 26) = U1 at R5 BB SG1 ⊢
  generalize u1.heap.size = b5 at R5 l5 SG1 ⊢
  have cc := unhide RR _ (unhide BB)
  go_wp2_with (with_reducible refine load_own rfl _ rfl b4 rfl x s 41 (unhide R4N _ (unhide BB)) ?_)
  go_fit (unhide E2 _ (unhide BB))
  rintro r u2 ⟨pb, cb, A2, rfl, SG2, hb2⟩
  clear cc E2
  go_upto_region 6 with fail
  have R7 := hide (new_row u2 (.cells #[.slice pb n cb] 26))
  have b2' := hide (below_two hb2 (al1_below u2 (.cells #[.slice pb n cb] 26)))
  replace R5 := hide (row_next (unhide b2') (unhide R5))
  replace SG1 := hide ((unhide SG1).next (unhide b2'))
  replace SG2 := hide (SG2.next (al1_below u2 (.cells #[.slice pb n cb] 26)))
  replace BB := hide (below_two (unhide BB) (unhide b2'))
  clear hb2 b2'
  generalize u2.alloc (.cells #[.slice pb n cb] 26) = U at R5 R7 BB SG1 SG2 ⊢
  generalize u2.heap.size = b7 at R7 SG2 ⊢
  have ES0 := hide (sameScene_same (setX X n x) A1 A2 pa pb n ca cb hn (unhide hsY) U (unhide SG1).nodes (unhide SG2).nodes)
  obtain ⟨cd, hcd⟩ : ∃ cd, Hid (setC16 X n x = cd) := ⟨_, rfl⟩
  rw [unhide hcd]
  have d5 := row1 (unhide R5)
  have d7 := row1 (unhide R7)
  go_wp2_with fail
  go_fit (unhide ES0)
  rintro r u3 ⟨rfl, hb⟩
  replace R5 := hide (row_next hb (unhide R5))
  replace SG1 := hide ((unhide SG1).next hb)
  replace BB := hide (below_two (unhide BB) hb)
  clear hb d5 d7 R7 SG2 ES0
  by_cases hc0 : cd = 0
  rotate_left
  · have hcb : (cd == 0) = false := beq_eq_false_iff_ne.2 hc0
    have e1 := (set_no (unhide hcd) hc0).2
    rw [e1] at SG1
    have ESc := hide (sameScene_same X A1 A pa p n ca c hn (unhide hsm) u3 (unhide SG1).nodes (unhide NN _ (unhide BB)))
    have cc := unhide RR _ (unhide BB)
    have d5 := row1 (unhide R5)
    clear hcd e1
    go_wp2_with fail
    go_fit (unhide ESc)
    rintro r u4 ⟨rfl, hb4⟩
    go_wp2_with fail
    go_ret
    exact ⟨rfl, below_two (unhide HB) (below_two (unhide BB) hb4)⟩
  subst hc0
  obtain ⟨k, hk, e1, e2, hS, hx, e3, hS', hc1, hx1⟩ := set_back (unhide hcd)
  rw [e2] at SG1
  have EAt := hide (fun u (hu : Below V.heap.size V u) => (specNodeAt_any X A p n c hn x.id u (unhide NN u hu)).mono fun r w' h => show r = .returned (.int .i64 (k : Int)) ∧ Below u.heap.size u w' by rw [e1] at h; exact h)
  replace hS := hide hS
  replace hx := hide hx
  replace hS' := hide hS'
  replace hc1 := hide hc1
  replace hx1 := hide hx1
  have e4 := hide e3
  clear e1 e2 hcd e3 hsY
  obtain ⟨yp, hyp⟩ : ∃ z, Hid ((X k).par = z) := ⟨_, rfl⟩
  have cc := unhide RR _ (unhide BB)
  have d4 := (nd_heads (unhide R4N _ (unhide BB))).1
  go_wp2_with fail
  go_fit (unhide EAt _ (unhide BB))
  rintro r u4 ⟨rfl, hb⟩
  replace R5 := hide (row_next hb (unhide R5))
  replace SG1 := hide ((unhide SG1).next hb)
  replace BB := hide (below_two (unhide BB) hb)
  clear cc d4 hb EAt
  obtain ⟨b, o, hao, hrg⟩ := (unhide NN _ (unhide BB) k hk).range
  subst hao
  have cc := unhide RR _ (unhide BB)
  have c1 : u4.cell? ⟨b, o + k * 31 + 1, none⟩ = some (.int .i64 yp) := by rw [← unhide hyp]; exact hrg 1 _ rfl
  have d4 := (nd_heads (unhide R4N _ (unhide BB))).2
  have f4 := frozen_of_row u4 b4 1 _ _ (unhide R4N _ (unhide BB))
  have hkn : (k : Int) < (n : Int) := by omega
  have R4U := hide (unhide R4N _ (unhide BB))
  clear hrg
  go_upto_region 12 with fail
  clear cc c1 d4 f4
  -- the node's parent is set in its variable
  have gr := hide (setc_grown u4 b4 1 (.int .i64 yp))
  have R4s := hide (show (u4.setCell ⟨b4, 1, none⟩ (.int .i64 yp)).heap[b4]? = some (.cells (ndC (x.withPar yp) s) 41 (0, 0)) by have h := setC (v := .int .i64 yp) (j := 1) (unhide R4U); rw [ndC_par] at h; exact h)
  have R3s := hide (show (u4.setCell ⟨b4, 1, none⟩ (.int .i64 yp)).heap[b3]? = some (.cells #[.slice (some ⟨b, o, none⟩) n c] 26 (0, 0)) from setc_other (by have := unhide lb; omega) (row_next (unhide BB) (unhide R3)))
  have l45 := hide (show b4 < V.heap.size from heap_lt (unhide R4))
  have R5s := hide (setc_other (b := b4) (j := 1) (v := .int .i64 yp) (by have := unhide l45; have := unhide l5; omega) (unhide R5))
  have SCs := hide ((((unhide SC).next (unhide BB))).keptB (unhide gr) (unhide ltS))
  have NDs := hide (show NdF (u4.setCell ⟨b4, 1, none⟩ (.int .i64 yp)) base x s from ⟨((unhide ND).inn.next (unhide BB)).kept (unhide gr) (fun l hl h0 k e e2 => by have := unhide ltX l hl h0 k e; have e3 := Option.some.inj e2; omega), (unhide ND).caps, (unhide ND).small, (unhide ND).wid, (unhide ND).wpar, (unhide ND).far⟩)
  have SGs := hide ((unhide SG1).setc (b := b4) (j := 1) (v := .int .i64 yp) (unhide l45))
  have BU := hide (show ∀ u, Below (u4.setCell ⟨b4, 1, none⟩ (.int .i64 yp)).heap.size (u4.setCell ⟨b4, 1, none⟩ (.int .i64 yp)) u → Below w.heap.size w u from fun u hu => below_two ((below_two (unhide HB) (unhide BB)).setCell (p := ⟨b4, 1, none⟩) (by have := unhide lb; dsimp only; omega) (.int .i64 yp)) hu)
  have ETs := hide ((unhide hg).low (show 0 < w.heap.size from unhide lw) (unhide BU _ (Below.refl _ _)))
  clear gr R4U SC ND SG1 RR R4N NN ET BB R3 R4 R5
  generalize u4.setCell ⟨b4, 1, none⟩ (.int .i64 yp) = U at R4s R3s R5s SCs NDs SGs BU ETs ⊢
  obtain ⟨xx, hxx⟩ : ∃ z, Hid (x.withPar yp = z) := ⟨_, rfl⟩
  rw [unhide hyp] at SGs hS' hc1 hx1
  rw [unhide hxx] at R4s SGs hS' hc1 hx1
  have xxs := hide (show xx.Small by rw [← unhide hxx]; exact par_fit _ _ (unhide NDs).small)
  have xxin := hide (show NdIn U xx s by rw [← unhide hxx]; exact ⟨(unhide NDs).inn.v, (unhide NDs).inn.p, (unhide NDs).inn.d, (unhide NDs).inn.cv, (unhide NDs).inn.cp⟩)
  have RR2 := hide (fun u (hu : Below U.heap.size U u) => row1 (row_next hu (unhide R3s)))
  have NN2 := hide (fun u (hu : Below U.heap.size U u) i hi => ((unhide SCs).nodes i hi).next hu)
  obtain ⟨ys, y1, _⟩ := (unhide SGs).row
  obtain ⟨ga, c', e, _, _⟩ := own_at y1 (by omega : 0 < n)
  cases e
  have NA := hide (show NrAt U (some ⟨ga, 0, none⟩) k xx (A1 k) by have h := (unhide SGs).nodes k hk; rwa [upd_at] at h)
  obtain ⟨s1, hs1⟩ : ∃ t, Hid (t = A1 k) := ⟨_, rfl⟩
  rw [← unhide hs1] at NA
  clear y1
  have EN := hide (fun u (hu : Below U.heap.size U u) => sameNode_same xx s1 s (unhide xxs) u (((unhide NA).next hu).inn) ((unhide xxin).next hu))
  have EOk := hide (fun u (hu : Below U.heap.size U u) => ok_call (upd X k xx) A1 (some ⟨ga, 0, none⟩) n ca (unhide hS') u (fun i hi => ((unhide SGs).nodes i hi).next hu))
  have hS12 := hide (fun u (hu : Below U.heap.size U u) => show Hid (Below U.heap.size U u) ∧ u.cell? ⟨b5, 0, none⟩ = some (.slice (some ⟨ga, 0, none⟩) n ca) from ⟨hu, row1 (row_next hu (unhide R5s))⟩)
  have hRA := hide (fun u (hu : Below U.heap.size U u) => show u.rangeAt ga (k * 31) (ndC xx s1).toList by
    obtain ⟨b', o', e, h⟩ := ((unhide NA).next hu).range
    cases e
    rwa [Nat.zero_add] at h)
  have hRX := hide (fun u (hu : Below U.heap.size U u) => nd_rng (row_next hu (unhide R4s)))
  refine wp_region_held_drew (S := (fun u => Hid (Below U.heap.size U u) ∧ u.cell? ⟨b5, 0, none⟩ = some (.slice (some ⟨ga, 0, none⟩) n ca))) (by kernel_rfl) ?_ (fun hHeld => ?_)
  · exact unhide hS12 _ (Below.refl _ _).drew
  refine wpAnyH_take (i := 0) (oi := { dst := some 56, op := Op.fieldAddr 26 (Operand.tmp 5) 0, type := 0, pos := "laws.go:769", after := #[], guard := none }) (v := ?_) rfl (by kernel_rfl) (by kernel_rfl) (by kernel_rfl) (fun _ _ _ h => h) (Or.inl ⟨by rfl, ?_⟩) (by assumption) ?_
  rotate_left
  · intro w hSw; (try dsimp only at hSw); go_simp <;> with_reducible rfl
  try simp only [Act.put, List.setIfInBounds_toArray, List.set_cons_zero, List.set_cons_succ]
  refine wpAnyH_take (i := 1) (oi := { dst := some 57, op := Op.load 24 (Operand.tmp 56), type := 24, pos := "laws.go:769", after := #[{ on := 0, ground := Ground.data }], guard := none }) (v := ?_) rfl (by kernel_rfl) (by kernel_rfl) (by kernel_rfl) (fun _ _ _ h => h) (Or.inl ⟨by rfl, ?_⟩) (by assumption) ?_
  rotate_left
  · intro w hSw; (try dsimp only at hSw); go_simp <;> with_reducible rfl
  try simp only [Act.put, List.setIfInBounds_toArray, List.set_cons_zero, List.set_cons_succ]
  refine wpAnyH_take (i := 2) (oi := { dst := some 58, op := Op.move (Operand.tmp 9), type := 3, pos := "laws.go:769", after := #[], guard := none }) (v := ?_) rfl (by kernel_rfl) (by kernel_rfl) (by kernel_rfl) (fun _ _ _ h => h) (Or.inl ⟨by rfl, ?_⟩) (by assumption) ?_
  rotate_left
  · intro w hSw; (try dsimp only at hSw); go_simp <;> with_reducible rfl
  try simp only [Act.put, List.setIfInBounds_toArray, List.set_cons_zero, List.set_cons_succ]
  refine wpAnyH_take (i := 3) (oi := { dst := some 59, op := Op.indexAddr 24 (Operand.tmp 57) (Operand.tmp 58), type := 0, pos := "laws.go:769", after := #[{ on := 1, ground := Ground.data }, { on := 2, ground := Ground.data }], guard := none }) (v := ?_) rfl (by kernel_rfl) (by kernel_rfl) (by kernel_rfl) (fun _ _ _ h => h) (Or.inl ⟨by rfl, ?_⟩) (by assumption) ?_
  rotate_left
  · intro w hSw; (try dsimp only at hSw); go_simp <;> with_reducible rfl
  try simp only [Act.put, List.setIfInBounds_toArray, List.set_cons_zero, List.set_cons_succ]
  refine wpAnyH_take (i := 4) (oi := { dst := some 60, op := Op.load 41 (Operand.tmp 59), type := 41, pos := "laws.go:769", after := #[{ on := 3, ground := Ground.data }], guard := none }) (v := .agg (ndC xx s1)) rfl (by kernel_rfl) (by kernel_rfl) (by kernel_rfl) (fun _ _ _ h => h) (yields_inode rfl _ rfl ga (k * 31) rfl xx s1 (fun u hu => unhide hRA u (unhide hu.1))) (by assumption) ?_
  try simp only [Act.put, List.setIfInBounds_toArray, List.set_cons_zero, List.set_cons_succ]
  refine wpAnyH_take (i := 5) (oi := { dst := some 61, op := Op.load 41 (Operand.tmp 4), type := 41, pos := "laws.go:769", after := #[], guard := none }) (v := .agg (ndC xx s)) rfl (by kernel_rfl) (by kernel_rfl) (by kernel_rfl) (fun _ _ _ h => h) (yields_inode rfl _ rfl b4 0 rfl xx s (fun u hu => unhide hRX u (unhide hu.1))) (by assumption) ?_
  try simp only [Act.put, List.setIfInBounds_toArray, List.set_cons_zero, List.set_cons_succ]
  refine wpAnyH_ready (rs := [6]) (by kernel_rfl) (by simp) ?_
  refine AllReadyH.cons (o := { dst := some 62, op := Op.call { callee := Callee.value (Operand.func 17), args := #[Operand.tmp 60, Operand.tmp 61], argTypes := #[41, 41] }, type := 4, pos := "laws.go:769", after := #[{ on := 4, ground := Ground.data }, { on := 5, ground := Ground.data }], guard := none }) rfl (fun K hK => ?_) AllReadyH.nil
  go_simp
  (first | (go_at_call 17; go_fit (unhide EN _ (unhide hHeld.1)); rintro r wn ⟨rfl, hbn⟩; have sn := unhide hS12 _ (below_two (unhide hHeld.1) hbn)) | (go_at_call 14; go_fit (unhide EOk _ (unhide hHeld.1)); rintro r wn ⟨rfl, hbn⟩; have sn := unhide hS12 _ (below_two (unhide hHeld.1) hbn)))
  refine hK.out _ _ ?_ (fun hHeld => ?_)
  · with_reducible exact sn
  clear hK K
  try simp only [Act.put, List.setIfInBounds_toArray, List.set_cons_zero, List.set_cons_succ]
  refine wpAnyH_take (i := 7) (oi := { dst := some 63, op := Op.unOp UnOp.not 4 (Operand.tmp 62), type := 4, pos := "laws.go:769", after := #[{ on := 6, ground := Ground.data }], guard := none }) (v := ?_) rfl (by kernel_rfl) (by kernel_rfl) (by kernel_rfl) (fun _ _ _ h => h) (Or.inl ⟨by rfl, ?_⟩) (by assumption) ?_
  rotate_left
  · intro w hSw; (try dsimp only at hSw); go_simp <;> with_reducible rfl
  try simp only [Act.put, List.setIfInBounds_toArray, List.set_cons_zero, List.set_cons_succ]
  refine wpAnyH_take (i := 8) (oi := { dst := some 64, op := Op.move (Operand.tmp 63), type := 4, pos := "laws.go:769", after := #[{ on := 7, ground := Ground.data }, { on := 6, ground := Ground.chain }], guard := none }) (v := ?_) rfl (by kernel_rfl) (by kernel_rfl) (by kernel_rfl) (fun _ _ _ h => h) (Or.inl ⟨by rfl, ?_⟩) (by assumption) ?_
  rotate_left
  · intro w hSw; (try dsimp only at hSw); go_simp <;> with_reducible rfl
  try simp only [Act.put, List.setIfInBounds_toArray, List.set_cons_zero, List.set_cons_succ]
  refine wpAnyH_take (i := 9) (oi := { dst := some 65, op := Op.load 26 (Operand.tmp 5), type := 26, pos := "laws.go:769", after := #[{ on := 8, ground := Ground.guard }], guard := some (8, false) }) (v := ?_) rfl (by kernel_rfl) (by kernel_rfl) (by kernel_rfl) (fun _ _ _ h => h) (Or.inl ⟨by rfl, ?_⟩) (by assumption) ?_
  rotate_left
  · intro w hSw; (try dsimp only at hSw); go_simp <;> with_reducible rfl
  try simp only [Act.put, List.setIfInBounds_toArray, List.set_cons_zero, List.set_cons_succ]
  refine wpAnyH_ready (rs := [10]) (by kernel_rfl) (by simp) ?_
  refine AllReadyH.cons (o := { dst := some 66, op := Op.call { callee := Callee.value (Operand.func 14), args := #[Operand.tmp 65], argTypes := #[26] }, type := 4, pos := "laws.go:769", after := #[{ on := 9, ground := Ground.data }, { on := 8, ground := Ground.chain }, { on := 8, ground := Ground.guard }], guard := some (8, false) }) rfl (fun K hK => ?_) AllReadyH.nil
  go_simp
  (first | (go_at_call 17; go_fit (unhide EN _ (unhide hHeld.1)); rintro r wn ⟨rfl, hbn⟩; have sn := unhide hS12 _ (below_two (unhide hHeld.1) hbn)) | (go_at_call 14; go_fit (unhide EOk _ (unhide hHeld.1)); rintro r wn ⟨rfl, hbn⟩; have sn := unhide hS12 _ (below_two (unhide hHeld.1) hbn)))
  refine hK.out _ _ ?_ (fun hHeld => ?_)
  · with_reducible exact sn
  clear hK K
  try simp only [Act.put, List.setIfInBounds_toArray, List.set_cons_zero, List.set_cons_succ]
  refine wpAnyH_take (i := 11) (oi := { dst := some 67, op := Op.unOp UnOp.not 4 (Operand.tmp 66), type := 4, pos := "laws.go:769", after := #[{ on := 10, ground := Ground.data }, { on := 8, ground := Ground.guard }], guard := some (8, false) }) (v := ?_) rfl (by kernel_rfl) (by kernel_rfl) (by kernel_rfl) (fun _ _ _ h => h) (Or.inl ⟨by rfl, ?_⟩) (by assumption) ?_
  rotate_left
  · intro w hSw; (try dsimp only at hSw); go_simp <;> with_reducible rfl
  try simp only [Act.put, List.setIfInBounds_toArray, List.set_cons_zero, List.set_cons_succ]
  refine wpAnyH_take (i := 12) (oi := { dst := some 68, op := Op.pick (Operand.tmp 64) (Operand.const (Value.bool true)) (Operand.tmp 67), type := 4, pos := "laws.go:769", after := #[{ on := 8, ground := Ground.data }, { on := 11, ground := Ground.data }], guard := none }) (v := ?_) rfl (by kernel_rfl) (by kernel_rfl) (by kernel_rfl) (fun _ _ _ h => h) (Or.inl ⟨by rfl, ?_⟩) (by assumption) ?_
  rotate_left
  · intro w hSw; (try dsimp only at hSw); go_simp <;> with_reducible rfl
  try simp only [Act.put, List.setIfInBounds_toArray, List.set_cons_zero, List.set_cons_succ]
  refine wpAnyH_done (by kernel_rfl) ?_ _
  have BU12 := hide (unhide hHeld.1)
  clear hHeld sn hRA hRX EN EOk hS12
  replace R3s := hide (row_next (unhide BU12) (unhide R3s))
  replace R5s := hide (row_next (unhide BU12) (unhide R5s))
  replace SCs := hide ((unhide SCs).next (unhide BU12))
  replace SGs := hide ((unhide SGs).next (unhide BU12))
  replace ETs := hide ((unhide ETs).next (unhide BU12))
  have BY := hide (fun u hu => unhide BU u (below_two (unhide BU12) hu))
  clear RR2 NN2 BU BU12 NA xxin NDs R4s
  go_upto_region 14 with fail
  generalize wn = Y at R3s R5s SCs SGs ETs BY ⊢
  have RR2 := hide (fun u (hu : Below Y.heap.size Y u) => row1 (row_next hu (unhide R3s)))
  have NN2 := hide (fun u (hu : Below Y.heap.size Y u) i hi => ((unhide SCs).nodes i hi).next hu)
  have hRK := hide (fun u (hu : Below Y.heap.size Y u) => show u.rangeAt b (o + k * 31) (ndC (X k) (A k)).toList by
    obtain ⟨b', o', e, h⟩ := (unhide NN2 u hu k hk).range
    cases e
    exact h)
  have ESb := hide (fun u (hu : Below Y.heap.size Y u) => (implSetNode_any (upd X k xx) A1 (some ⟨ga, 0, none⟩) n ca hn (unhide SGs).cap.1 (unhide SGs).cap.2 (right_small (unhide hS')) (unhide SGs).caps (right_wf (unhide hS')) (X k) (A k) (unhide hsm k hk) (unhide hcp k hk) u (fun i hi => ((unhide SGs).nodes i hi).next hu) (unhide NN2 u hu k hk).inn ((unhide ETs).next hu)).mono fun r w' h => show ∃ (pc : Option Addr) (cc : Nat) (A9 : Nat → Na), r = .returned (.tuple #[.agg #[.slice pc n cc], .int .i64 0]) ∧ (∀ i, i < n → NrAt w' pc i (X i) (A9 i)) ∧ Below u.heap.size u w' by
    rw [unhide hc1, unhide hx1] at h
    obtain ⟨pc, cc, A9, h1, h2, h3⟩ := h
    exact ⟨pc, cc, A9, h1, h2.nodes, h3⟩)
  obtain ⟨xk, hxk⟩ : ∃ z, Hid (X k = z) := ⟨_, rfl⟩
  obtain ⟨sk, hsk⟩ : ∃ z, Hid (A k = z) := ⟨_, rfl⟩
  rw [unhide hxk, unhide hsk] at hRK ESb
  have hS14 := hide (fun u (hu : Below Y.heap.size Y u) => show Hid (Below Y.heap.size Y u) ∧ u.cell? ⟨b3, 0, none⟩ = some (.slice (some ⟨b, o, none⟩) n c) ∧ u.cell? ⟨b5, 0, none⟩ = some (.slice (some ⟨ga, 0, none⟩) n ca) from ⟨hu, unhide RR2 u hu, row1 (row_next hu (unhide R5s))⟩)
  clear hxk hsk hxx hyp
  refine wp_region_held_drew (S := (fun u => Hid (Below Y.heap.size Y u) ∧ u.cell? ⟨b3, 0, none⟩ = some (.slice (some ⟨b, o, none⟩) n c) ∧ u.cell? ⟨b5, 0, none⟩ = some (.slice (some ⟨ga, 0, none⟩) n ca))) (by kernel_rfl) ?_ (fun hHeld => ?_)
  · exact unhide hS14 _ (Below.refl _ _).drew
  have HU := hide (show Below Y.heap.size Y Y.drew from (Below.refl _ _).drew)
  have HU0 := HU
  generalize Y.drew = V14 at HU HU0 hHeld ⊢
  refine wpAnyH_take (i := 0) (oi := { dst := some 70, op := Op.load 26 (Operand.tmp 5), type := 26, pos := "laws.go:772", after := #[], guard := none }) (v := ?_) rfl (by kernel_rfl) (by kernel_rfl) (by kernel_rfl) (fun _ _ _ h => h) (Or.inl ⟨by rfl, ?_⟩) (by assumption) ?_
  rotate_left
  · intro w hSw; (try dsimp only at hSw); go_simp <;> with_reducible rfl
  try simp only [Act.put, List.setIfInBounds_toArray, List.set_cons_zero, List.set_cons_succ]
  refine wpAnyH_take (i := 1) (oi := { dst := some 71, op := Op.fieldAddr 26 (Operand.tmp 3) 0, type := 0, pos := "laws.go:772", after := #[], guard := none }) (v := ?_) rfl (by kernel_rfl) (by kernel_rfl) (by kernel_rfl) (fun _ _ _ h => h) (Or.inl ⟨by rfl, ?_⟩) (by assumption) ?_
  rotate_left
  · intro w hSw; (try dsimp only at hSw); go_simp <;> with_reducible rfl
  try simp only [Act.put, List.setIfInBounds_toArray, List.set_cons_zero, List.set_cons_succ]
  refine wpAnyH_take (i := 2) (oi := { dst := some 72, op := Op.load 24 (Operand.tmp 71), type := 24, pos := "laws.go:772", after := #[{ on := 1, ground := Ground.data }], guard := none }) (v := ?_) rfl (by kernel_rfl) (by kernel_rfl) (by kernel_rfl) (fun _ _ _ h => h) (Or.inl ⟨by rfl, ?_⟩) (by assumption) ?_
  rotate_left
  · intro w hSw; (try dsimp only at hSw); go_simp <;> with_reducible rfl
  try simp only [Act.put, List.setIfInBounds_toArray, List.set_cons_zero, List.set_cons_succ]
  refine wpAnyH_take (i := 3) (oi := { dst := some 73, op := Op.move (Operand.tmp 9), type := 3, pos := "laws.go:772", after := #[], guard := none }) (v := ?_) rfl (by kernel_rfl) (by kernel_rfl) (by kernel_rfl) (fun _ _ _ h => h) (Or.inl ⟨by rfl, ?_⟩) (by assumption) ?_
  rotate_left
  · intro w hSw; (try dsimp only at hSw); go_simp <;> with_reducible rfl
  try simp only [Act.put, List.setIfInBounds_toArray, List.set_cons_zero, List.set_cons_succ]
  refine wpAnyH_take (i := 4) (oi := { dst := some 74, op := Op.indexAddr 24 (Operand.tmp 72) (Operand.tmp 73), type := 0, pos := "laws.go:772", after := #[{ on := 2, ground := Ground.data }, { on := 3, ground := Ground.data }], guard := none }) (v := ?_) rfl (by kernel_rfl) (by kernel_rfl) (by kernel_rfl) (fun _ _ _ h => h) (Or.inl ⟨by rfl, ?_⟩) (by assumption) ?_
  rotate_left
  · intro w hSw; (try dsimp only at hSw); go_simp <;> with_reducible rfl
  try simp only [Act.put, List.setIfInBounds_toArray, List.set_cons_zero, List.set_cons_succ]
  refine wpAnyH_take (i := 5) (oi := { dst := some 75, op := Op.load 41 (Operand.tmp 74), type := 41, pos := "laws.go:772", after := #[{ on := 4, ground := Ground.data }], guard := none }) (v := .agg (ndC xk sk)) rfl (by kernel_rfl) (by kernel_rfl) (by kernel_rfl) (fun _ _ _ h => h) (yields_inode rfl _ rfl b (o + k * 31) rfl xk sk (fun u hu => unhide hRK u (unhide hu.1))) (by assumption) ?_
  try simp only [Act.put, List.setIfInBounds_toArray, List.set_cons_zero, List.set_cons_succ]
  refine wpAnyH_ready (rs := [6, 10]) (by kernel_rfl) (by simp) ?_
  refine AllReadyH.cons (o := { dst := some 76, op := Op.call { callee := Callee.value (Operand.func 24), args := #[Operand.tmp 70, Operand.tmp 75], argTypes := #[26, 41] }, type := 43, pos := "laws.go:772", after := #[{ on := 0, ground := Ground.data }, { on := 5, ground := Ground.data }], guard := none }) rfl (fun K hK => ?_) ?_
  · go_simp
    (go_at_call 24; go_fit (unhide ESb _ (unhide HU)); rintro r VA ⟨pc, cc, A9, rfl, hN9, hb9⟩)
    replace HU := hide (below_two (unhide HU) hb9)
    have P9 := hide hN9
    have HU0 := HU
    clear hb9 hN9
    refine hK.out _ _ ?_ (fun hHeld => ?_)
    · exact unhide hS14 _ (unhide HU)
    clear hK K
    try simp only [Act.put, List.setIfInBounds_toArray, List.set_cons_zero, List.set_cons_succ]
    refine wpAnyH_take (i := 7) (oi := { dst := some 69, op := Op.move (Operand.tmp 76), type := 43, pos := "laws.go:772", after := #[{ on := 6, ground := Ground.data }], guard := none }) (v := ?_) rfl (by kernel_rfl) (by kernel_rfl) (by kernel_rfl) (fun _ _ _ h => h) (Or.inl ⟨by rfl, ?_⟩) (by assumption) ?_
    rotate_left
    · intro w hSw; (try dsimp only at hSw); go_simp <;> with_reducible rfl
    try simp only [Act.put, List.setIfInBounds_toArray, List.set_cons_zero, List.set_cons_succ]
    refine wpAnyH_take (i := 8) (oi := { dst := some 77, op := Op.extract (Operand.tmp 69) 0, type := 26, pos := "laws.go:772", after := #[{ on := 7, ground := Ground.data }], guard := none }) (v := ?_) rfl (by kernel_rfl) (by kernel_rfl) (by kernel_rfl) (fun _ _ _ h => h) (Or.inl ⟨by rfl, ?_⟩) (by assumption) ?_
    rotate_left
    · intro w hSw; (try dsimp only at hSw); go_simp <;> with_reducible rfl
    try simp only [Act.put, List.setIfInBounds_toArray, List.set_cons_zero, List.set_cons_succ]
    refine wpAnyH_take (i := 9) (oi := { dst := some 78, op := Op.extract (Operand.tmp 69) 1, type := 3, pos := "laws.go:772", after := #[{ on := 7, ground := Ground.data }, { on := 11, ground := Ground.gcOnly Departure.lateStores }], guard := none }) (v := ?_) rfl (by kernel_rfl) (by kernel_rfl) (by kernel_rfl) (fun _ _ _ h => h) (Or.inl ⟨by rfl, ?_⟩) (by assumption) ?_
    rotate_left
    · intro w hSw; (try dsimp only at hSw); go_simp <;> with_reducible rfl
    try simp only [Act.put, List.setIfInBounds_toArray, List.set_cons_zero, List.set_cons_succ]
    refine wpAnyH_ready (rs := [10]) (by kernel_rfl) (by simp) ?_
    refine AllReadyH.cons (o := { dst := some 10, op := Op.alloc 26, type := 0, pos := "laws.go:772", after := #[], guard := none }) rfl (fun K hK => ?_) AllReadyH.nil
    go_simp
    replace HU := hide (below_two (unhide HU) (al1_below VA (.cells #[.slice none 0 0] 26)))
    have R10 := hide (new_row VA (.cells #[.slice none 0 0] 26))
    have l10 := hide (show Y.heap.size ≤ VA.heap.size from (unhide HU0).size)
    replace P9 := hide (fun i hi => (unhide P9 i hi).next (al1_below VA (.cells #[.slice none 0 0] 26)))
    generalize VA.alloc (.cells #[.slice none 0 0] 26) = VB at HU R10 P9 ⊢
    generalize VA.heap.size = b10 at R10 l10 ⊢
    have HU0 := HU
    refine hK.out _ _ ?_ (fun hHeld => ?_)
    · exact unhide hS14 _ (unhide HU)
    clear hK K
    try simp only [Act.put, List.setIfInBounds_toArray, List.set_cons_zero, List.set_cons_succ]
    refine wpAnyH_ready (rs := [11]) (by kernel_rfl) (by simp) ?_
    refine AllReadyH.cons (o := { dst := none, op := Op.store 26 (Operand.tmp 10) (Operand.tmp 77), type := 0, pos := "laws.go:772", after := #[{ on := 10, ground := Ground.data }, { on := 8, ground := Ground.data }, { on := 6, ground := Ground.chain }, { on := 0, ground := Ground.phase }, { on := 1, ground := Ground.phase }, { on := 2, ground := Ground.phase }, { on := 3, ground := Ground.phase }, { on := 4, ground := Ground.phase }, { on := 5, ground := Ground.phase }, { on := 6, ground := Ground.phase }, { on := 7, ground := Ground.phase }, { on := 8, ground := Ground.phase }, { on := 9, ground := Ground.textOnly Departure.lateStores }, { on := 10, ground := Ground.phase }], guard := none }) rfl (fun K hK => ?_) AllReadyH.nil
    have cb := row1 (unhide R10)
    have fb := frozen_of_row VB b10 0 _ _ (unhide R10)
    go_simp
    have R10x := hide (show (VB.setCell ⟨b10, 0, none⟩ (.slice pc n cc)).heap[b10]? = some (.cells #[.slice pc n cc] 26 (0, 0)) by have := setC (v := .slice pc n cc) (j := 0) (unhide R10); simpa using this)
    replace HU := hide ((unhide HU).setCell (p := ⟨b10, 0, none⟩) (unhide l10) (.slice pc n cc))
    replace P9 := hide (fun i hi => (unhide P9 i hi).put (v := .slice pc n cc) (unhide R10))
    clear cb fb R10
    have R10 := R10x
    generalize (VB.setCell ⟨b10, 0, none⟩ (.slice pc n cc)) = WL at R10 HU P9 ⊢
    refine hK.out _ _ ?_ (fun hHeld => ?_)
    · exact unhide hS14 _ (unhide HU)
    clear hK K
    try simp only [Act.put, List.setIfInBounds_toArray, List.set_cons_zero, List.set_cons_succ]
    refine wpAnyH_take (i := 12) (oi := { dst := some 11, op := Op.assign (Operand.tmp 78), type := 3, pos := "laws.go:772", after := #[{ on := 9, ground := Ground.data }, { on := 11, ground := Ground.chain }, { on := 0, ground := Ground.phase }, { on := 1, ground := Ground.phase }, { on := 2, ground := Ground.phase }, { on := 3, ground := Ground.phase }, { on := 4, ground := Ground.phase }, { on := 5, ground := Ground.phase }, { on := 6, ground := Ground.phase }, { on := 7, ground := Ground.phase }, { on := 8, ground := Ground.phase }, { on := 9, ground := Ground.phase }, { on := 10, ground := Ground.phase }, { on := 11, ground := Ground.phase }], guard := none }) (v := ?_) rfl (by kernel_rfl) (by kernel_rfl) (by kernel_rfl) (fun _ _ _ h => h) (Or.inl ⟨by rfl, ?_⟩) (by assumption) ?_
    rotate_left
    · intro w hSw; (try dsimp only at hSw); go_simp <;> with_reducible rfl
    try simp only [Act.put, List.setIfInBounds_toArray, List.set_cons_zero, List.set_cons_succ]
    refine wpAnyH_done (by kernel_rfl) ?_ _
    have ESe := hide (sameScene_same X A9 A pc (some ⟨b, o, none⟩) n cc c hn (unhide hsm) WL (unhide P9) (unhide NN2 _ (unhide HU)))
    have d3 := unhide RR2 _ (unhide HU)
    have d10 := row1 (unhide R10)
    go_wp2_with fail
    go_fit (unhide ESe)
    rintro r w9 ⟨rfl, hb9⟩
    go_wp2_with fail
    go_ret
    exact ⟨rfl, unhide BY _ (below_two (unhide HU) hb9)⟩
  refine AllReadyH.cons (o := { dst := some 10, op := Op.alloc 26, type := 0, pos := "laws.go:772", after := #[], guard := none }) rfl (fun K hK => ?_) ?_
  · go_simp
    replace HU := hide (below_two (unhide HU) (al1_below V14 (.cells #[.slice none 0 0] 26)))
    have R10 := hide (new_row V14 (.cells #[.slice none 0 0] 26))
    have l10 := hide (show Y.heap.size ≤ V14.heap.size from (unhide HU0).size)
    generalize V14.alloc (.cells #[.slice none 0 0] 26) = VA at HU R10 ⊢
    generalize V14.heap.size = b10 at R10 l10 ⊢
    have HU0 := HU
    refine hK.out _ _ ?_ (fun hHeld => ?_)
    · exact unhide hS14 _ (unhide HU)
    clear hK K
    try simp only [Act.put, List.setIfInBounds_toArray, List.set_cons_zero, List.set_cons_succ]
    refine wpAnyH_ready (rs := [6]) (by kernel_rfl) (by simp) ?_
    refine AllReadyH.cons (o := { dst := some 76, op := Op.call { callee := Callee.value (Operand.func 24), args := #[Operand.tmp 70, Operand.tmp 75], argTypes := #[26, 41] }, type := 43, pos := "laws.go:772", after := #[{ on := 0, ground := Ground.data }, { on := 5, ground := Ground.data }], guard := none }) rfl (fun K hK => ?_) AllReadyH.nil
    go_simp
    (go_at_call 24; go_fit (unhide ESb _ (unhide HU)); rintro r VB ⟨pc, cc, A9, rfl, hN9, hb9⟩)
    replace R10 := hide (row_next hb9 (unhide R10))
    replace HU := hide (below_two (unhide HU) hb9)
    have P9 := hide hN9
    have HU0 := HU
    clear hb9 hN9
    refine hK.out _ _ ?_ (fun hHeld => ?_)
    · exact unhide hS14 _ (unhide HU)
    clear hK K
    try simp only [Act.put, List.setIfInBounds_toArray, List.set_cons_zero, List.set_cons_succ]
    refine wpAnyH_take (i := 7) (oi := { dst := some 69, op := Op.move (Operand.tmp 76), type := 43, pos := "laws.go:772", after := #[{ on := 6, ground := Ground.data }], guard := none }) (v := ?_) rfl (by kernel_rfl) (by kernel_rfl) (by kernel_rfl) (fun _ _ _ h => h) (Or.inl ⟨by rfl, ?_⟩) (by assumption) ?_
    rotate_left
    · intro w hSw; (try dsimp only at hSw); go_simp <;> with_reducible rfl
    try simp only [Act.put, List.setIfInBounds_toArray, List.set_cons_zero, List.set_cons_succ]
    refine wpAnyH_take (i := 8) (oi := { dst := some 77, op := Op.extract (Operand.tmp 69) 0, type := 26, pos := "laws.go:772", after := #[{ on := 7, ground := Ground.data }], guard := none }) (v := ?_) rfl (by kernel_rfl) (by kernel_rfl) (by kernel_rfl) (fun _ _ _ h => h) (Or.inl ⟨by rfl, ?_⟩) (by assumption) ?_
    rotate_left
    · intro w hSw; (try dsimp only at hSw); go_simp <;> with_reducible rfl
    try simp only [Act.put, List.setIfInBounds_toArray, List.set_cons_zero, List.set_cons_succ]
    refine wpAnyH_take (i := 9) (oi := { dst := some 78, op := Op.extract (Operand.tmp 69) 1, type := 3, pos := "laws.go:772", after := #[{ on := 7, ground := Ground.data }, { on := 11, ground := Ground.gcOnly Departure.lateStores }], guard := none }) (v := ?_) rfl (by kernel_rfl) (by kernel_rfl) (by kernel_rfl) (fun _ _ _ h => h) (Or.inl ⟨by rfl, ?_⟩) (by assumption) ?_
    rotate_left
    · intro w hSw; (try dsimp only at hSw); go_simp <;> with_reducible rfl
    try simp only [Act.put, List.setIfInBounds_toArray, List.set_cons_zero, List.set_cons_succ]
    refine wpAnyH_ready (rs := [11]) (by kernel_rfl) (by simp) ?_
    refine AllReadyH.cons (o := { dst := none, op := Op.store 26 (Operand.tmp 10) (Operand.tmp 77), type := 0, pos := "laws.go:772", after := #[{ on := 10, ground := Ground.data }, { on := 8, ground := Ground.data }, { on := 6, ground := Ground.chain }, { on := 0, ground := Ground.phase }, { on := 1, ground := Ground.phase }, { on := 2, ground := Ground.phase }, { on := 3, ground := Ground.phase }, { on := 4, ground := Ground.phase }, { on := 5, ground := Ground.phase }, { on := 6, ground := Ground.phase }, { on := 7, ground := Ground.phase }, { on := 8, ground := Ground.phase }, { on := 9, ground := Ground.textOnly Departure.lateStores }, { on := 10, ground := Ground.phase }], guard := none }) rfl (fun K hK => ?_) AllReadyH.nil
    have cb := row1 (unhide R10)
    have fb := frozen_of_row VB b10 0 _ _ (unhide R10)
    go_simp
    have R10x := hide (show (VB.setCell ⟨b10, 0, none⟩ (.slice pc n cc)).heap[b10]? = some (.cells #[.slice pc n cc] 26 (0, 0)) by have := setC (v := .slice pc n cc) (j := 0) (unhide R10); simpa using this)
    replace HU := hide ((unhide HU).setCell (p := ⟨b10, 0, none⟩) (unhide l10) (.slice pc n cc))
    replace P9 := hide (fun i hi => (unhide P9 i hi).put (v := .slice pc n cc) (unhide R10))
    clear cb fb R10
    have R10 := R10x
    generalize (VB.setCell ⟨b10, 0, none⟩ (.slice pc n cc)) = WL at R10 HU P9 ⊢
    refine hK.out _ _ ?_ (fun hHeld => ?_)
    · exact unhide hS14 _ (unhide HU)
    clear hK K
    try simp only [Act.put, List.setIfInBounds_toArray, List.set_cons_zero, List.set_cons_succ]
    refine wpAnyH_take (i := 12) (oi := { dst := some 11, op := Op.assign (Operand.tmp 78), type := 3, pos := "laws.go:772", after := #[{ on := 9, ground := Ground.data }, { on := 11, ground := Ground.chain }, { on := 0, ground := Ground.phase }, { on := 1, ground := Ground.phase }, { on := 2, ground := Ground.phase }, { on := 3, ground := Ground.phase }, { on := 4, ground := Ground.phase }, { on := 5, ground := Ground.phase }, { on := 6, ground := Ground.phase }, { on := 7, ground := Ground.phase }, { on := 8, ground := Ground.phase }, { on := 9, ground := Ground.phase }, { on := 10, ground := Ground.phase }, { on := 11, ground := Ground.phase }], guard := none }) (v := ?_) rfl (by kernel_rfl) (by kernel_rfl) (by kernel_rfl) (fun _ _ _ h => h) (Or.inl ⟨by rfl, ?_⟩) (by assumption) ?_
    rotate_left
    · intro w hSw; (try dsimp only at hSw); go_simp <;> with_reducible rfl
    try simp only [Act.put, List.setIfInBounds_toArray, List.set_cons_zero, List.set_cons_succ]
    refine wpAnyH_done (by kernel_rfl) ?_ _
    have ESe := hide (sameScene_same X A9 A pc (some ⟨b, o, none⟩) n cc c hn (unhide hsm) WL (unhide P9) (unhide NN2 _ (unhide HU)))
    have d3 := unhide RR2 _ (unhide HU)
    have d10 := row1 (unhide R10)
    go_wp2_with fail
    go_fit (unhide ESe)
    rintro r w9 ⟨rfl, hb9⟩
    go_wp2_with fail
    go_ret
    exact ⟨rfl, unhide BY _ (below_two (unhide HU) hb9)⟩
  exact AllReadyH.nil
end Go.Proofs.YtmafopckplpajaaGreatDoor
