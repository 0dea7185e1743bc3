/-
  DrawNn · CreatesL · PlacesL: texts of one claim, in one.
-/
import Derived.Test.YtdbphpekhmlmdaaGreatDoorFnPlacesM11
import Derived.Test.YtdbphpekhmlmdaaGreatDoorFnPlacesM8
import Derived.Test.YtdbphpekhmlmdaaGreatDoorFnPlacesM6
import Derived.Test.YtdbphpekhmlmdaaGreatDoorFnPlacesM10
import Derived.Test.YtdbphpekhmlmdaaGreatDoorFnPlacesM14
import Derived.Test.YtdbphpekhmlmdaaGreatDoorFnPlacesM15
import Derived.Deep.RegionHeld3
import Derived.Deep.DeepCutAuto
import Derived.Deep.DeepFit
import Derived.Test.YtdbphpekhmlmdaaGreatDoorFnPlacesM17
import Derived.Test.YtdbphpekhmlmdaaGreatDoorFnPlacesM19

/-
  Drawn nodes: DrawNode.
-/
namespace Go.Proofs.YtdbphpekhmlmdaaGreatDoor
open Go.RowKit
set_option linter.unusedVariables false

end Go.Proofs.YtdbphpekhmlmdaaGreatDoor

/-
  FnCreates: a node that is put into a drawn scene is there; what is refused changes nothing; dropped it is gone, with all below it, and all else stays. (By createslaw.py.)
-/
namespace Go.Proofs.YtdbphpekhmlmdaaGreatDoor
open Go.RowKit
set_option linter.unusedVariables false

theorem right_small {X : Nat → Nd} {n : Nat} (hS : ScOk X n) : ∀ i, i < n → (X i).Small := fun i hi => node_small (okAt_iff.1 (hS.2 i hi)).1
theorem right_wf {X : Nat → Nd} {n : Nat} (hS : ScOk X n) : Wf X n :=
  ⟨fun i hi => WalkArith.wf_i64 (by have := (node_ids (okAt_iff.1 (hS.2 i hi)).1).1; omega), fun i hi => WalkArith.wf_i64 (by have := (node_ids (okAt_iff.1 (hS.2 i hi)).1).2.1; omega)⟩
theorem ok_call (X : Nat → Nd) (A : Nat → Na) (ao : Option Addr) (n cp : Nat) (hS : ScOk X n) (w : World) (P : ∀ i, i < n → NrAt w ao i (X i) (A i)) :
    Calls Tryz.prog 11 #[.agg #[.slice ao n cp]] w fun r w' => r = .returned (.bool true) ∧ Below w.heap.size w w' :=
  (implSceneOk_any X A ao n cp (by have := hS.1; omega) (right_small hS) (right_wf hS).id (right_wf hS).par w P).mono fun r w' h => by rw [sceneOk_iff.2 hS] at h; exact h
end Go.Proofs.YtdbphpekhmlmdaaGreatDoor

/-
  FnPlaces: a node that is placed in a drawn scene has its parent and stands behind what it was told; all else stays in order; it makes no ring. (By placeslaw.py.)
-/
namespace Go.Proofs.YtdbphpekhmlmdaaGreatDoor
open Go.RowKit
set_option linter.unusedVariables false

theorem place_small {X : Nat → Nd} {n : Nat} {id par beh : Int} (hs : ∀ i, i < n → (X i).Small) : ∀ i, i < n → (placeX X n id par beh i).Small := fun i hi => by
  by_cases h : placeC X n id par beh = 0
  · obtain ⟨_, k, q, hk, hq, _, e, _⟩ := place_back h
    rw [e, ins_at hk hq hi]
    by_cases e1 : oldAt k q i = k
    · rw [e1, upd_at]; exact par_fit _ _ (hs k hk)
    · rw [upd_ne _ _ e1]; exact hs _ (old_lt hk hi hq)
  · rw [(place_no rfl h).2]; exact hs i hi

set_option maxHeartbeats 16000000 in
set_option maxRecDepth 100000 in
theorem fnPlaces_walk (a0 : Option Addr) (len0 cap0 : Nat) (z0 : List Int) (w : World) (w0 : IsRow .u8 w a0 len0 cap0 z0) (hg : ErrT w) :
    Calls Tryz.prog 3 #[.slice a0 len0 cap0] w fun e w' => e = .returned (.bool true) ∧ Below w.heap.size w w' := by
  by_cases hl : len0 ≤ 1048576
  rotate_left
  · go_enter Tryz.func3, Tryz.ntmps3
    go_wp2_with (go_at_call 5; go_must (refine (big_yes a0 len0 cap0 hl _).mono ?_); rintro e w1 ⟨rfl, rfl⟩)
    go_ret
    exact ⟨rfl, Below.refl _ _⟩
  have HI := hide (InB.of_row w0)
  replace hg := hide hg
  clear w0
  go_enter Tryz.func3, Tryz.ntmps3
  go_wp2_with fail
  refine (big_no a0 len0 cap0 hl _).mono ?_
  rintro e w1 ⟨rfl, hw⟩
  rw [hw]
  clear hw w1
  go_wp2_with fail
  refine (drawPlaceNode_any a0 len0 cap0 _ hl (unhide HI)).mono ?_
  rintro e w2 ⟨n, p, c, X, A, q0, id, par, beh, base, rfl, hn9, ⟨wi, wp, wb⟩, SC, hb⟩
  replace wi := hide wi
  replace wp := hide wp
  replace wb := hide wb
  go_upto_region 4 with fail
  have R3 := hide (new_row w2 (.cells #[.slice p n c] 26))
  have bV := hide (al1_below w2 (.cells #[.slice p n c] 26))
  replace SC := hide (SC.next (unhide bV))
  have HB := hide (below_two hb (unhide bV))
  clear hb bV HI
  generalize w2.alloc (.cells #[.slice p n c] 26) = V at R3 SC HB ⊢
  generalize w2.heap.size = b3 at R3 ⊢
  have RR := hide (fun u (hu : Below V.heap.size V u) => row1 (row_next hu (unhide R3)))
  have NN := hide (fun u (hu : Below V.heap.size V u) i hi => ((unhide SC).nodes i hi).next hu)
  have ET := hide (fun u (hu : Below V.heap.size V u) => (unhide hg).next (below_two (unhide HB) hu))
  have hn : n ≤ 1048576 := by omega
  have hsm := hide (show ∀ i, i < n → (X i).Small from fun i hi => ((unhide SC).f i hi).small)
  have hcp := hide (show ∀ i, i < n → Caps (X i) (A i) from fun i hi => ((unhide SC).f i hi).caps)
  have hwf := hide (show Wf X n from ⟨fun i hi => ((unhide SC).f i hi).wid, fun i hi => ((unhide SC).f i hi).wpar⟩)
  have hnc := hide (show n ≤ c ∧ (p = none → c = 0) by obtain ⟨ys, h1, _⟩ := (unhide SC).row; exact own_caps h1)
  have E1 := hide (fun u (hu : Below V.heap.size V u) => implPlaceNode_any X A p n c hn (unhide hnc).1 (unhide hnc).2 (unhide hsm) (unhide hcp) (unhide hwf) id par beh (unhide wi) (unhide wp) (unhide wb) u (unhide NN u hu) (unhide ET u hu))
  have E2 := hide (fun u (hu : Below V.heap.size V u) => specPlaceNode_any X A p n c hn (unhide hsm) (unhide hcp) id par beh u (unhide NN u hu))
  have hsY := hide (place_small (id := id) (par := par) (beh := beh) (unhide hsm))
  have cc := unhide RR _ (Below.refl _ _)
  go_wp2_with fail
  go_fit (unhide E1 _ (Below.refl _ _))
  rintro r u1 ⟨pa, ca, A1, rfl, SG1, hb1⟩
  clear cc E1
  go_upto_region 5 with fail
  have R5 := hide (new_row u1 (.cells #[.slice pa n ca] 26))
  have BB := hide (below_two hb1 (al1_below u1 (.cells #[.slice pa n ca] 26)))
  replace SG1 := hide ((SG1.next (al1_below u1 (.cells #[.slice pa n ca] 26))).high (show u1.heap.size ≤ u1.heap.size from Nat.le_refl _))
  clear hb1
  generalize u1.alloc (.cells #[.slice pa n ca] 26) = U1 at R5 BB SG1 ⊢
  generalize u1.heap.size = b5 at R5 SG1 ⊢
  have cc := unhide RR _ (unhide BB)
  go_wp2_with fail
  go_fit (unhide E2 _ (unhide BB))
  rintro r u2 ⟨pb, cb, A2, rfl, SG2, hb2⟩
  clear cc E2
  go_upto_region 6 with fail
  have R7 := hide (new_row u2 (.cells #[.slice pb n cb] 26))
  have b2' := hide (below_two hb2 (al1_below u2 (.cells #[.slice pb n cb] 26)))
  replace R5 := hide (row_next (unhide b2') (unhide R5))
  replace SG1 := hide ((unhide SG1).next (unhide b2'))
  replace SG2 := hide (SG2.next (al1_below u2 (.cells #[.slice pb n cb] 26)))
  replace BB := hide (below_two (unhide BB) (unhide b2'))
  clear hb2 b2'
  generalize u2.alloc (.cells #[.slice pb n cb] 26) = U at R5 R7 BB SG1 SG2 ⊢
  generalize u2.heap.size = b7 at R7 SG2 ⊢
  have ES0 := hide (sameScene_same (placeX X n id par beh) A1 A2 pa pb n ca cb hn (unhide hsY) U (unhide SG1).nodes (unhide SG2).nodes)
  obtain ⟨cd, hcd⟩ : ∃ cd, Hid (placeC X n id par beh = cd) := ⟨_, rfl⟩
  rw [unhide hcd]
  have d5 := row1 (unhide R5)
  have d7 := row1 (unhide R7)
  go_wp2_with fail
  go_fit (unhide ES0)
  rintro r u3 ⟨rfl, hb⟩
  replace R5 := hide (row_next hb (unhide R5))
  replace SG1 := hide ((unhide SG1).next hb)
  replace BB := hide (below_two (unhide BB) hb)
  clear hb d5 d7 R7 SG2 ES0
  by_cases hc0 : cd = 0
  rotate_left
  · have hcb : (cd == 0) = false := beq_eq_false_iff_ne.2 hc0
    have e1 := (place_no (unhide hcd) hc0).2
    rw [e1] at SG1
    have ESc := hide (sameScene_same X A1 A pa p n ca c hn (unhide hsm) u3 (unhide SG1).nodes (unhide NN _ (unhide BB)))
    have cc := unhide RR _ (unhide BB)
    have d5 := row1 (unhide R5)
    clear hcd e1
    go_wp2_with fail
    go_fit (unhide ESc)
    rintro r u4 ⟨rfl, hb4⟩
    go_wp2_with fail
    go_ret
    exact ⟨rfl, below_two (unhide HB) (below_two (unhide BB) hb4)⟩
  subst hc0
  obtain ⟨hS, k, q, hk, hq, e1, e2, hS', hz, hnz⟩ := place_back (unhide hcd)
  rw [e2] at SG1 hsY
  obtain ⟨Y, hY⟩ : ∃ Y, Hid (pickF (upd X k ((X k).withPar par)) (insQ k n q) = Y) := ⟨_, rfl⟩
  rw [unhide hY] at SG1 hsY hS' hnz
  have YO := hide (fun i (hi : i < n) => show Y i = upd X k ((X k).withPar par) (oldAt k q i) by rw [← unhide hY]; exact ins_at hk hq hi)
  have Yq := hide (show Y q = (X k).withPar par by rw [unhide YO q hq, old_at, upd_at])
  have Yo := hide (fun i (hi : i < n) (hne : i ≠ q) => show Y i = X (oldAt k q i) by rw [unhide YO i hi, upd_ne _ _ (old_ne hne)])
  have Yid := hide (fun i (hi : i < n) => show ((Y i).id = id ↔ i = q) by
    refine ⟨fun e => hS'.uniq i q hi hq ?_, fun e => ?_⟩
    · rw [e, unhide Yq]; exact e1.symm
    · rw [e, unhide Yq]; exact e1)
  have hf := hide (show firstN Y id n = (q : Int) by
    have h := first_only hS'.uniq hq
    rw [(unhide Yid q hq).2 rfl] at h
    exact h)
  have Xid := hide (fun i (hi : i < n) => show ((X i).id = id ↔ i = k) from ⟨fun e => hS.uniq i k hi hk (e.trans e1.symm), fun e => by rw [e]; exact e1⟩)
  clear e2 hcd hY YO
  have EAt := hide (fun u (hu : Below u3.heap.size u3 u) => (implNodeAt_any Y A1 pa n ca hn id u (fun i hi => ((unhide SG1).nodes i hi).next hu)).mono fun r w' h => show r = .returned (.int .i64 (q : Int)) ∧ Below u.heap.size u w' by rw [unhide hf] at h; exact h)
  have EOk := hide (fun u (hu : Below u3.heap.size u3 u) => ok_call Y A1 pa n ca hS' u (fun i hi => ((unhide SG1).nodes i hi).next hu))
  have R5N := hide (fun u (hu : Below u3.heap.size u3 u) => row1 (row_next hu (unhide R5)))
  have RR3 := hide (fun u (hu : Below u3.heap.size u3 u) => unhide RR u (below_two (unhide BB) hu))
  have NN3 := hide (fun u (hu : Below u3.heap.size u3 u) => unhide NN u (below_two (unhide BB) hu))
  have NA3 := hide (fun u (hu : Below u3.heap.size u3 u) i (hi : i < n) => ((unhide SG1).nodes i hi).next hu)
  have BU := hide (fun u (hu : Below u3.heap.size u3 u) => below_two (unhide HB) (below_two (unhide BB) hu))
  obtain ⟨ys, y1, _⟩ := (unhide SG1).row
  obtain ⟨ga, c', e, _, _⟩ := own_at y1 (by omega : 0 < n)
  cases e
  clear y1
  have cA := hide (fun u (hu : Below u3.heap.size u3 u) i (hi : i < n) => show u.rangeAt ga (i * 31) (ndC (Y i) (A1 i)).toList by
    obtain ⟨b', o', e, h⟩ := (unhide NA3 u hu i hi).range
    cases e
    rwa [Nat.zero_add] at h)
  obtain ⟨b, o, hao, _⟩ := (unhide NN _ (unhide BB) 0 (by omega)).range
  subst hao
  have cX := hide (fun u (hu : Below u3.heap.size u3 u) i (hi : i < n) => show u.rangeAt b (o + i * 31) (ndC (X i) (A i)).toList by
    obtain ⟨b', o', e, h⟩ := (unhide NN3 u hu i hi).range
    cases e
    exact h)
  have wq := hide (show ((Y q).par = par) by rw [unhide Yq]; rfl)
  replace hS := hide hS
  replace hS' := hide hS'
  clear SG1 R5 SC RR NN ET hg BB hcp hwf hnc wi wp wb hf HB Yq
  have d5 := unhide R5N _ (Below.refl _ _)
  go_wp2_with fail
  go_fit (unhide EAt _ (Below.refl _ _))
  rintro r u4 ⟨rfl, b4⟩
  clear d5 EAt
  have d5 := unhide R5N _ b4
  have B4 := hide b4
  clear b4
  go_upto_region 11 with fail
  clear d5
  go_cut [95] (fun s u => s = .bool false ∧ Hid (Below u3.heap.size u3 u))
  case first =>
    have d5 := unhide R5N _ (unhide B4)
    go_wp2_with fail
    go_fit (unhide EOk _ (unhide B4))
    rintro r u5 ⟨rfl, b5'⟩
    clear d5 EOk
    have B5 := hide (below_two (unhide B4) b5')
    clear b5' B4
    have d5 := unhide R5N _ (unhide B5)
    have cq1 : u5.cell? ⟨ga, q * 31 + 1, none⟩ = some (.int .i64 par) := by rw [← unhide wq]; exact (unhide cA _ (unhide B5) q hq) 1 _ rfl
    have hlq : (q : Int) < (n : Int) := by omega
    by_cases hb0 : beh = 0
    · have hq0 := hz hb0
      subst hq0 hb0
      go_wp2_with fail
      go_meet
      exact ⟨rfl, B5⟩
    · obtain ⟨p', rfl, hp⟩ := hnz hb0
      have cq2 : u5.cell? ⟨ga, p' * 31, none⟩ = some (.int .i64 beh) := by rw [← hp]; exact (unhide cA _ (unhide B5) p' (by omega)) 0 _ rfl
      have hb1 : (beh != 0) = true := by simpa using hb0
      have hw1 : IntKind.i64.wrap (((p' + 1 : Nat) : Int) - 1) = (p' : Int) := by rw [IntWalk.i64_in _ (by omega)]; omega
      have hw2 : IntKind.i64.wrap ((p' : Int) + 1 - 1) = (p' : Int) := by rw [IntWalk.i64_in _ (by omega)]; omega
      have hp1 : (p' : Int) < (n : Int) := by omega
      clear hp hnz hz
      go_wp2_with fail
      go_meet
      exact ⟨rfl, B5⟩
  case rest =>
  clear B4 EOk
  obtain ⟨rfl, B5⟩ := hcut
  clear hz hnz wq
  go_wp2_with fail
  go_loopw [12, 13] (fun v i u => ∃ iN : Nat, iN ≤ n ∧ v = .int .i64 ((atV k q iN : Nat) : Int) ∧ i = .int .i64 (iN : Int) ∧ Hid (Below u3.heap.size u3 u)) (fun _ i _ => n - (intOf i).toNat)
  case atStart => exact ⟨0, Nat.zero_le _, by rw [at_zero]; rfl, rfl, B5⟩
  case round =>
    clear B5
    obtain ⟨i, hi, rfl, rfl, BB⟩ := hrel
    have d5 := unhide R5N _ (unhide BB)
    have d3 := unhide RR3 _ (unhide BB)
    by_cases hlt : i < n
    · have hlt' : (i : Int) < (n : Int) := by omega
      have ci : wr.cell? ⟨ga, i * 31, none⟩ = some (.int .i64 (Y i).id) := (unhide cA _ (unhide BB) i hlt) 0 _ rfl
      have Yi := hide (unhide Yid i hlt)
      by_cases hiq : i = q
      · have e9 := (unhide Yi).2 hiq
        rw [e9] at ci
        clear Yi e9
        have hat := hide (show atV k q (i + 1) = atV k q i by rw [hiq]; exact at_skip k q)
        obtain ⟨at0, hat0⟩ : ∃ z, Hid (atV k q i = z) := ⟨_, rfl⟩
        rw [unhide hat0] at hat ⊢
        clear hiq
        go_wp2_with fail
        go_roundw
        case rel => exact ⟨i + 1, by omega, by rw [unhide hat], by go_num, BB⟩
        case measure => simp [intOf]; omega
      · have e9 : (Y i).id ≠ id := fun e => hiq ((unhide Yi).1 e)
        have e10 : ((Y i).id == id) = false := beq_eq_false_iff_ne.2 e9
        have hxx := hide (unhide Yo i hlt hiq)
        have hnx := hide (at_next (k := k) hiq)
        have hjn := old_lt (q := q) hk hlt hq
        have hjk := hide (old_ne (k := k) hiq)
        have hsi := hide (unhide hsY i hlt)
        have hin := hide (fun u (hu : Below wr.heap.size wr u) => unhide cA u (below_two (unhide BB) hu) i hlt)
        have hndi := hide (fun u (hu : Below wr.heap.size wr u) => (unhide NA3 u (below_two (unhide BB) hu) i hlt).inn)
        obtain ⟨at0, hat0⟩ : ∃ z, Hid (atV k q i = z) := ⟨_, rfl⟩
        rw [unhide hat0] at hnx ⊢
        obtain ⟨j, hj⟩ : ∃ z, Hid (oldAt k q i = z) := ⟨_, rfl⟩
        rw [unhide hj] at hnx hjn hjk hxx
        have hat1 : at0 < n := by
          by_cases e : at0 = k
          · omega
          · have := (unhide hnx).2.2 e; omega
        have cj : wr.cell? ⟨b, o + at0 * 31, none⟩ = some (.int .i64 (X at0).id) := (unhide cX _ (unhide BB) at0 hat1) 0 _ rfl
        obtain ⟨bo, hbo⟩ : ∃ bo, Hid (((X at0).id == id) = bo) := ⟨_, rfl⟩
        have hb1 := hide (show bo = true → j = at0 + 1 from fun e => (unhide hnx).2.1 ((unhide Xid at0 hat1).1 (by have h := unhide hbo; rw [e] at h; exact eq_of_beq h)))
        have hb0 := hide (show bo = false → j = at0 from fun e => (unhide hnx).2.2 (fun h => by have h2 := (unhide Xid at0 hat1).2 h; have h3 := unhide hbo; rw [e, h2] at h3; simp at h3))
        have hat2 : (at0 : Int) < (n : Int) := by omega
        have hj' : (j : Int) < (n : Int) := by omega
        obtain ⟨zi, hzi⟩ : ∃ z, Hid ((Y i).id = z) := ⟨_, rfl⟩
        rw [unhide hzi] at ci e10
        obtain ⟨zj, hzj⟩ : ∃ z, Hid ((X at0).id = z) := ⟨_, rfl⟩
        rw [unhide hzj] at cj hbo
        have hN := hide (unhide hnx).1
        clear hzi hzj e9 Yi hnx hat0
        go_upto_if 118 with fail
        go_cut [12] (fun s u => s = .int .i64 (j : Int) ∧ u = wr)
        case first =>
          rw [unhide hbo]
          cases bo with
          | false =>
            have e0 := hide (unhide hb0 rfl)
            go_wp2_with fail
            go_meet
            exact ⟨by rw [unhide e0], rfl⟩
          | true =>
            have e1' := hide (unhide hb1 rfl)
            have hw1 : IntKind.i64.wrap ((at0 : Int) + 1) = ((at0 + 1 : Nat) : Int) := by rw [IntWalk.i64_in _ (by omega)]; omega
            go_wp2_with fail
            go_meet
            exact ⟨by rw [unhide e1', Int.natCast_add]; rfl, rfl⟩
        case rest =>
        obtain ⟨rfl, hu⟩ := hcut
        rw [hu]
        clear hu
        clear ci cj hbo hb0 hb1 d5 d3 e10
        obtain ⟨xx, hx2⟩ : ∃ z, Hid (Y i = z) := ⟨_, rfl⟩
        rw [unhide hx2] at hxx hsi hin hndi
        obtain ⟨s1, hs1⟩ : ∃ t, Hid (A1 i = t) := ⟨_, rfl⟩
        rw [unhide hs1] at hin hndi
        obtain ⟨s2, hs2⟩ : ∃ t, Hid (A j = t) := ⟨_, rfl⟩
        have hRA := hin
        have hRX := hide (fun u (hu : Below wr.heap.size wr u) => show u.rangeAt b (o + j * 31) (ndC xx s2).toList by rw [unhide hxx, ← unhide hs2]; exact unhide cX u (below_two (unhide BB) hu) j hjn)
        have hndj := hide (fun u (hu : Below wr.heap.size wr u) => show NdIn u xx s2 by rw [unhide hxx, ← unhide hs2]; exact (unhide NN3 u (below_two (unhide BB) hu) j hjn).inn)
        have EN := hide (fun u (hu : Below wr.heap.size wr u) => sameNode_same xx s1 s2 (unhide hsi) u (unhide hndi u hu) (unhide hndj u hu))
        have hS20 := hide (fun u (hu : Below wr.heap.size wr u) => show Hid (Below wr.heap.size wr u) ∧ u.cell? ⟨b3, 0, none⟩ = some (.slice (some ⟨b, o, none⟩) n c) ∧ u.cell? ⟨b5, 0, none⟩ = some (.slice (some ⟨ga, 0, none⟩) n ca) from ⟨hu, unhide RR3 u (below_two (unhide BB) hu), unhide R5N u (below_two (unhide BB) hu)⟩)
        clear hin hndi hndj hxx hx2 hs1 hs2 hsi
        go_upto_region 20 with fail
        refine wp_region_held_drew (S := (fun u => Hid (Below wr.heap.size wr u) ∧ u.cell? ⟨b3, 0, none⟩ = some (.slice (some ⟨b, o, none⟩) n c) ∧ u.cell? ⟨b5, 0, none⟩ = some (.slice (some ⟨ga, 0, none⟩) n ca))) (by kernel_rfl) ?_ (fun hHeld => ?_)
        · exact unhide hS20 _ (Below.refl _ _).drew
        refine wpAnyH_take (i := 0) (oi := { dst := some 121, op := Op.fieldAddr 26 (Operand.tmp 7) 0, type := 0, pos := "laws.go:745", after := #[], guard := none }) (v := ?_) rfl (by kernel_rfl) (by kernel_rfl) (by kernel_rfl) (fun _ _ _ h => h) (Or.inl ⟨by rfl, ?_⟩) (by assumption) ?_
        rotate_left
        · intro w hSw; (try dsimp only at hSw); go_simp <;> with_reducible rfl
        try simp only [Act.put, List.setIfInBounds_toArray, List.set_cons_zero, List.set_cons_succ]
        refine wpAnyH_take (i := 1) (oi := { dst := some 122, op := Op.load 24 (Operand.tmp 121), type := 24, pos := "laws.go:745", after := #[{ on := 0, ground := Ground.data }], guard := none }) (v := ?_) rfl (by kernel_rfl) (by kernel_rfl) (by kernel_rfl) (fun _ _ _ h => h) (Or.inl ⟨by rfl, ?_⟩) (by assumption) ?_
        rotate_left
        · intro w hSw; (try dsimp only at hSw); go_simp <;> with_reducible rfl
        try simp only [Act.put, List.setIfInBounds_toArray, List.set_cons_zero, List.set_cons_succ]
        refine wpAnyH_take (i := 2) (oi := { dst := some 123, op := Op.move (Operand.tmp 13), type := 3, pos := "laws.go:745", after := #[], guard := none }) (v := ?_) rfl (by kernel_rfl) (by kernel_rfl) (by kernel_rfl) (fun _ _ _ h => h) (Or.inl ⟨by rfl, ?_⟩) (by assumption) ?_
        rotate_left
        · intro w hSw; (try dsimp only at hSw); go_simp <;> with_reducible rfl
        try simp only [Act.put, List.setIfInBounds_toArray, List.set_cons_zero, List.set_cons_succ]
        refine wpAnyH_take (i := 3) (oi := { dst := some 124, op := Op.indexAddr 24 (Operand.tmp 122) (Operand.tmp 123), type := 0, pos := "laws.go:745", after := #[{ on := 1, ground := Ground.data }, { on := 2, ground := Ground.data }], guard := none }) (v := ?_) rfl (by kernel_rfl) (by kernel_rfl) (by kernel_rfl) (fun _ _ _ h => h) (Or.inl ⟨by rfl, ?_⟩) (by assumption) ?_
        rotate_left
        · intro w hSw; (try dsimp only at hSw); go_simp <;> with_reducible rfl
        try simp only [Act.put, List.setIfInBounds_toArray, List.set_cons_zero, List.set_cons_succ]
        refine wpAnyH_take (i := 4) (oi := { dst := some 125, op := Op.load 47 (Operand.tmp 124), type := 47, pos := "laws.go:745", after := #[{ on := 3, ground := Ground.data }], guard := none }) (v := .agg (ndC xx s1)) rfl (by kernel_rfl) (by kernel_rfl) (by kernel_rfl) (fun _ _ _ h => h) (yields_inode rfl _ rfl ga (i * 31) rfl xx s1 (fun u hu => unhide hRA u (unhide hu.1))) (by assumption) ?_
        try simp only [Act.put, List.setIfInBounds_toArray, List.set_cons_zero, List.set_cons_succ]
        refine wpAnyH_take (i := 5) (oi := { dst := some 126, op := Op.fieldAddr 26 (Operand.tmp 3) 0, type := 0, pos := "laws.go:745", after := #[], guard := none }) (v := ?_) rfl (by kernel_rfl) (by kernel_rfl) (by kernel_rfl) (fun _ _ _ h => h) (Or.inl ⟨by rfl, ?_⟩) (by assumption) ?_
        rotate_left
        · intro w hSw; (try dsimp only at hSw); go_simp <;> with_reducible rfl
        try simp only [Act.put, List.setIfInBounds_toArray, List.set_cons_zero, List.set_cons_succ]
        refine wpAnyH_take (i := 6) (oi := { dst := some 127, op := Op.load 24 (Operand.tmp 126), type := 24, pos := "laws.go:745", after := #[{ on := 5, ground := Ground.data }], guard := none }) (v := ?_) rfl (by kernel_rfl) (by kernel_rfl) (by kernel_rfl) (fun _ _ _ h => h) (Or.inl ⟨by rfl, ?_⟩) (by assumption) ?_
        rotate_left
        · intro w hSw; (try dsimp only at hSw); go_simp <;> with_reducible rfl
        try simp only [Act.put, List.setIfInBounds_toArray, List.set_cons_zero, List.set_cons_succ]
        refine wpAnyH_take (i := 7) (oi := { dst := some 128, op := Op.move (Operand.tmp 12), type := 3, pos := "laws.go:745", after := #[], guard := none }) (v := ?_) rfl (by kernel_rfl) (by kernel_rfl) (by kernel_rfl) (fun _ _ _ h => h) (Or.inl ⟨by rfl, ?_⟩) (by assumption) ?_
        rotate_left
        · intro w hSw; (try dsimp only at hSw); go_simp <;> with_reducible rfl
        try simp only [Act.put, List.setIfInBounds_toArray, List.set_cons_zero, List.set_cons_succ]
        refine wpAnyH_take (i := 8) (oi := { dst := some 129, op := Op.indexAddr 24 (Operand.tmp 127) (Operand.tmp 128), type := 0, pos := "laws.go:745", after := #[{ on := 6, ground := Ground.data }, { on := 7, ground := Ground.data }], guard := none }) (v := ?_) rfl (by kernel_rfl) (by kernel_rfl) (by kernel_rfl) (fun _ _ _ h => h) (Or.inl ⟨by rfl, ?_⟩) (by assumption) ?_
        rotate_left
        · intro w hSw; (try dsimp only at hSw); go_simp <;> with_reducible rfl
        try simp only [Act.put, List.setIfInBounds_toArray, List.set_cons_zero, List.set_cons_succ]
        refine wpAnyH_take (i := 9) (oi := { dst := some 130, op := Op.load 47 (Operand.tmp 129), type := 47, pos := "laws.go:745", after := #[{ on := 8, ground := Ground.data }], guard := none }) (v := .agg (ndC xx s2)) rfl (by kernel_rfl) (by kernel_rfl) (by kernel_rfl) (fun _ _ _ h => h) (yields_inode rfl _ rfl b (o + j * 31) rfl xx s2 (fun u hu => unhide hRX u (unhide hu.1))) (by assumption) ?_
        try simp only [Act.put, List.setIfInBounds_toArray, List.set_cons_zero, List.set_cons_succ]
        refine wpAnyH_ready (rs := [10]) (by kernel_rfl) (by simp) ?_
        refine AllReadyH.cons (o := { dst := some 131, op := Op.call { callee := Callee.value (Operand.func 12), args := #[Operand.tmp 125, Operand.tmp 130], argTypes := #[47, 47] }, type := 4, pos := "laws.go:745", after := #[{ on := 4, ground := Ground.data }, { on := 9, ground := Ground.data }], guard := none }) rfl (fun K hK => ?_) AllReadyH.nil
        go_simp
        (first | (go_at_call 12; go_fit (unhide EN _ (unhide hHeld.1)); rintro r wn ⟨rfl, hbn⟩; have sn := unhide hS20 _ (below_two (unhide hHeld.1) hbn)))
        refine hK.out _ _ ?_ (fun hHeld => ?_)
        · with_reducible exact sn
        clear hK K
        try simp only [Act.put, List.setIfInBounds_toArray, List.set_cons_zero, List.set_cons_succ]
        refine wpAnyH_take (i := 11) (oi := { dst := some 132, op := Op.unOp UnOp.not 4 (Operand.tmp 131), type := 4, pos := "laws.go:745", after := #[{ on := 10, ground := Ground.data }], guard := none }) (v := ?_) rfl (by kernel_rfl) (by kernel_rfl) (by kernel_rfl) (fun _ _ _ h => h) (Or.inl ⟨by rfl, ?_⟩) (by assumption) ?_
        rotate_left
        · intro w hSw; (try dsimp only at hSw); go_simp <;> with_reducible rfl
        try simp only [Act.put, List.setIfInBounds_toArray, List.set_cons_zero, List.set_cons_succ]
        refine wpAnyH_done (by kernel_rfl) ?_ _
        have BZ := hide (below_two (unhide BB) (unhide hHeld.1))
        clear hHeld sn hRA hRX EN hS20
        have hw3 : IntKind.i64.wrap ((j : Int) + 1) = ((j + 1 : Nat) : Int) := by rw [IntWalk.i64_in _ (by omega)]; omega
        go_wp2_with fail
        go_roundw
        case rel => exact ⟨i + 1, by omega, by rw [unhide hN, Int.natCast_add]; rfl, by go_num, BZ⟩
        case measure => simp [intOf]; omega
    · have hke : i = n := by omega
      subst hke
      go_wp2_with fail
      go_ret
      exact ⟨rfl, unhide BU _ (unhide BB)⟩
end Go.Proofs.YtdbphpekhmlmdaaGreatDoor
