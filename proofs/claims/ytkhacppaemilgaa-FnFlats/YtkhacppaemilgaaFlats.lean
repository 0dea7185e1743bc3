/-
  The walk of the law on the lines of drawn paths.
-/
import Derived.Test.YtkhacppaemilgaaFlatsP
import Derived.Test.YtkhacppaemilgaaFlatS
import Derived.Test.YtkhacppaemilgaaSamesL
import Derived.Test.YtkhacppaemilgaaLinesW
import Derived.Test.YtkhacppaemilgaaHullI
import Derived.Test.YtkhacppaemilgaaDrawPc
import Derived.Test.YtkhacppaemilgaaDrawP
import Derived.Test.YtkhacppaemilgaaQuietIn
import Derived.Deep.RegionHeld3
import Derived.Deep.DeepCutAuto
import Derived.Deep.DeepFit
namespace Go.Proofs.Ytkhacppaemilgaa
open Go.RowKit
set_option linter.unusedVariables false

attribute [local go_sem ↓] eqlPoint in
set_option maxHeartbeats 16000000 in
set_option maxRecDepth 100000 in
theorem fnFlats_walk (a0 : Option Addr) (len0 cap0 : Nat) (z0 : List Int) (w : World) (w0 : IsRow .u8 w a0 len0 cap0 z0) :
    Calls Try.prog 4 #[.slice a0 len0 cap0] w fun e w' => e = .returned (.bool true) ∧ Below w.heap.size w w' := by
  by_cases hl : len0 ≤ 1048576
  · have HI := hide (InB.of_row w0)
    clear w0
    go_enter Try.func4, Try.ntmps4
    go_wp2_with fail
    refine (big_no a0 len0 cap0 hl _).mono ?_
    rintro r w1 ⟨rfl, rfl⟩
    go_wp2_with fail
    refine (drawRightPath_any a0 len0 cap0 _ hl (unhide HI)).mono ?_
    rintro r w2 ⟨v1, v2, rfl, hd, hb2⟩
    obtain ⟨n, m, vf, pf, PV, hR, hnear, hn0, hm0⟩ := hd
    obtain ⟨a1, c1, a2, c2, rfl, rfl⟩ := (show ∃ a c b d, v1 = .slice a n c ∧ v2 = .slice b m d from by obtain ⟨xs, ys, o, _, _⟩ := PV; exact o.form)
    have h24 := hR.nv24
    have hm24 := hR.np24
    have hx : true = true ↔ Right vf n pf m := ⟨fun _ => hR, fun _ => rfl⟩
    have hJin := hull_in hm0 hR.points
    have FL := Fl.all hR.verbs hR.points hR.sum hJin n (Nat.le_refl _)
    have hpN := flat_pos (pf := pf) hR.verbs n (Nat.le_refl _) hn0
    have hflat : flatL true vf pf n = flatA vf pf n := by unfold flatL flatA; rw [if_pos ⟨rfl, hn0⟩, if_neg (by omega)]
    obtain ⟨hLn, hLl⟩ := flatL_small hx
    have EI := hide (fun (u : World) (base : Nat) (hv : PathV u base (.slice a1 n c1) (.slice a2 m c2) n m vf pf) => implFlatOf_any vf pf a1 a2 n c1 m c2 (by omega) (by omega) hv.capQ u true hx hv.ints hv.pts)
    have ES := hide (fun (u : World) (base : Nat) (hv : PathV u base (.slice a1 n c1) (.slice a2 m c2) n m vf pf) => specFlatOf_any vf pf a1 a2 n c1 m c2 (by omega) (by omega) u true hx hv.ints hv.pts)
    have EH := hide (fun (u : World) (base : Nat) (hv : PathV u base (.slice a1 n c1) (.slice a2 m c2) n m vf pf) => implHull_any vf pf a1 a2 n c1 m c2 (by omega) (by omega) u true hx hv.ints hv.ptsIn)
    have eJ : hullB true pf m = joinN (fun i => pbox (pf i)) m := rfl
    rw [eJ] at EH
    generalize joinN (fun i => pbox (pf i)) m = J at EH FL hJin
    rw [hflat] at EI ES hLn hLl
    have hlast : Hid (vf (n - 1) = 5 → ∃ D l, flatA vf pf n = D ++ [l] ∧ firstP l = lastP l) := fun h5 => by
      obtain ⟨k, rfl⟩ : ∃ k, n = k + 1 := ⟨n - 1, by omega⟩
      rw [Nat.add_sub_cancel] at h5
      have hk0 : 0 < k := by
        rcases Nat.eq_zero_or_pos k with rfl | h
        · have := (hR.verbs 0 (by omega)).2 (.inl rfl); rw [this] at h5; exact absurd h5 (by decide)
        · exact h
      exact ⟨_, _, if_neg (by omega), close_ends h5 (flat_pos (pf := pf) hR.verbs k (by omega) hk0)⟩
    have hshape : ∃ D l, flatA vf pf n = D ++ [l] := ⟨_, _, if_neg (by omega)⟩
    have hNum := FL.num
    have hIn := FL.inn
    have hPos := FL.pos
    have hFst := FL.fst hn0
    clear FL hflat hpN hnear hx
    generalize flatA vf pf n = L at EI ES hLn hLl hlast hshape hNum hIn hPos hFst
    obtain ⟨J0, J1, J2, J3⟩ := J
    replace hIn := hide hIn
    replace hPos := hide hPos
    replace hFst := hide hFst
    replace hshape := hide hshape
    have hR' := hide hR
    clear hR hJin eJ
    obtain ⟨N, hN⟩ : ∃ N, Hid (N = L.length) := ⟨_, rfl⟩
    have hN0 : 0 < N := by rw [unhide hN]; obtain ⟨l, t, e, _⟩ := unhide hFst; rw [e]; simp
    have hNc : Hid ((countM vf n : Nat) = N) := by unfold Hid; rw [unhide hN]; exact hNum.symm
    have EL := hide (fun (a b : Option Addr) (c d base base' : Nat) (w : World) h h' => sameLines_any L a b N c d base base' (unhide hN) hLn hLl w h h')
    have hN100 : N ≤ 100 := by rw [unhide hN]; exact hLn
    replace hLl := hide hLl
    clear hNum hLn HI
    have HB := hide hb2
    clear hb2
    replace PV := hide PV
    go_wp2_with fail
    obtain ⟨W3, hW⟩ : ∃ W, W = w2.alloc (.cells #[.slice a1 n c1, .slice a2 m c2] 36) := ⟨_, rfl⟩
    have hbn := hide (show Below w2.heap.size w2 W3 by rw [hW]; exact al1_below _ _)
    have R := hide (show W3.heap[w2.heap.size]? = some (.cells #[.slice a1 n c1, .slice a2 m c2] 36 (0, 0)) by rw [hW]; exact new_row _ _)
    rw [← hW]
    clear hW
    replace PV := hide ((unhide PV).next (unhide hbn))
    replace HB := hide (below_two (unhide HB) (unhide hbn))
    clear hbn
    go_fit (unhide EI _ _ (unhide PV))
    rintro r w4 ⟨v, rfl, hl1, hb⟩
    obtain ⟨a3, c3, e1⟩ := hl1.form
    rw [← unhide hN] at e1
    subst e1
    replace R := hide (row_next hb (unhide R))
    replace PV := hide ((unhide PV).next hb)
    replace HB := hide (below_two (unhide HB) hb)
    have l1 := hide hl1
    clear hl1 hb EI
    obtain ⟨r0, r1⟩ := row2 (unhide R)
    go_wp2_with fail
    clear r0 r1
    go_fit (unhide EH _ _ (unhide PV))
    rintro r w5 ⟨rfl, hb⟩
    replace R := hide (row_next hb (unhide R))
    replace PV := hide ((unhide PV).next hb)
    replace HB := hide (below_two (unhide HB) hb)
    replace l1 := hide ((unhide l1).next hb)
    clear hb EH
    dsimp only
    obtain ⟨r0, r1⟩ := row2 (old_row (.cells #[.int .i64 J0, .int .i64 J1, .int .i64 J2, .int .i64 J3] 29) (unhide R))
    go_wp2_with fail
    clear r0 r1
    obtain ⟨V5, hW⟩ : ∃ W, W = w5.alloc (.cells #[.int .i64 J0, .int .i64 J1, .int .i64 J2, .int .i64 J3] 29) := ⟨_, rfl⟩
    have hbn := hide (show Below w5.heap.size w5 V5 by rw [hW]; exact al1_below _ _)
    have Q := hide (show V5.heap[w5.heap.size]? = some (.cells #[.int .i64 J0, .int .i64 J1, .int .i64 J2, .int .i64 J3] 29 (0, 0)) by rw [hW]; exact new_row _ _)
    rw [← hW]
    clear hW
    replace R := hide (row_next (unhide hbn) (unhide R))
    replace PV := hide ((unhide PV).next (unhide hbn))
    replace HB := hide (below_two (unhide HB) (unhide hbn))
    replace l1 := hide ((unhide l1).next (unhide hbn))
    clear hbn
    go_fit (unhide ES _ _ (unhide PV))
    rintro r w6 ⟨v, rfl, hl2, hb⟩
    obtain ⟨a4, c4, e1⟩ := hl2.form
    rw [← unhide hN] at e1
    subst e1
    replace R := hide (row_next hb (unhide R))
    replace Q := hide (row_next hb (unhide Q))
    replace PV := hide ((unhide PV).next hb)
    replace HB := hide (below_two (unhide HB) hb)
    replace l1 := hide ((unhide l1).next hb)
    have l2 := hide hl2
    clear hl2 hb ES
    go_wp2_with fail
    go_fit (unhide EL _ _ _ _ _ _ _ (unhide l1) (unhide l2))
    rintro r w7 ⟨rfl, hb⟩
    replace R := hide (row_next hb (unhide R))
    replace Q := hide (row_next hb (unhide Q))
    replace PV := hide ((unhide PV).next hb)
    replace HB := hide (below_two (unhide HB) hb)
    replace l1 := hide ((unhide l1).next hb)
    clear hb l2 EL
    have hNz : ((N : Int) == 0) = false := by simp; omega
    go_wp2_with fail
    go_loopw [6, 7] (fun q i u => ∃ k : Nat, k ≤ n ∧ i = .int .i64 k ∧ q = .int .i64 (countM vf k : Nat) ∧ Hid (Below w7.heap.size w7 u)) (fun _ i _ => n - (intOf i).toNat)
    case atStart => exact ⟨0, Nat.zero_le _, rfl, rfl, Below.refl _ _⟩
    case round =>
      obtain ⟨k, hk, rfl, rfl, B1⟩ := hrel
      have hc := countM_le vf k
      obtain ⟨r0, r1⟩ := row2 (row_next (unhide B1) (unhide R))
      by_cases hlt : k < n
      · obtain ⟨sv, ov, ev, g0⟩ := ((unhide PV).next (unhide B1)).ints k hlt
        subst ev
        have hcm : Hid (countM vf (k + 1) = countM vf k + if vf k = 1 then 1 else 0) := rfl
        generalize countM vf k = q at hcm hc ⊢
        have hwq : IntKind.i64.wrap ((q : Int) + 1) = (q : Int) + 1 := IntWalk.i64_in _ (by omega)
        generalize vf k = z at g0 hcm
        by_cases hz : z = 1
        · have hz' : (z == 1) = true := by simp [hz]
          rw [if_pos hz] at hcm
          replace hz := hide hz
          go_wp2_with fail
          go_roundw
          case rel => exact ⟨k + 1, by omega, by go_num, by rw [unhide hcm]; go_num, B1⟩
          case measure => simp [intOf]; omega
        · have hz' : (z == 1) = false := by simp [hz]
          rw [if_neg hz] at hcm
          replace hz := hide hz
          go_wp2_with fail
          go_roundw
          case rel => exact ⟨k + 1, by omega, by go_num, by rw [unhide hcm]; go_num, B1⟩
          case measure => simp [intOf]; omega
      · have hke : k = n := by omega
        subst hke
        rw [unhide hNc]
        replace R := hide (row_next (unhide B1) (unhide R))
        replace Q := hide (row_next (unhide B1) (unhide Q))
        replace PV := hide ((unhide PV).next (unhide B1))
        replace HB := hide (below_two (unhide HB) (unhide B1))
        replace l1 := hide ((unhide l1).next (unhide B1))
        clear B1 hc hk hlt
        obtain ⟨W8, hW8⟩ : ∃ W, W = wr := ⟨_, rfl⟩
        rw [← hW8] at R Q PV HB l1 r0 r1 ⊢
        clear hW8
        go_wp2_with fail
        clear r0 r1
        go_loopw [8] (fun i u => ∃ j : Nat, j ≤ N ∧ i = .int .i64 j ∧ Hid (Below W8.heap.size W8 u)) (fun i _ => N - (intOf i).toNat)
        case atStart => exact ⟨0, Nat.zero_le _, rfl, Below.refl _ _⟩
        case round =>
          obtain ⟨j, hj, rfl, B2⟩ := hrel
          obtain ⟨vs, o1, k1⟩ := unhide l1
          rw [← unhide hN] at o1
          obtain ⟨g, _, e1, _, _⟩ := own_at o1 hN0
          cases e1
          by_cases hlt : j < N
          · have hjL : j < L.length := by rw [← unhide hN]; exact hlt
            obtain ⟨al, cl, _, gc, ol⟩ := line_at o1 k1 (unhide hN) hjL
            have hin := unhide hIn _ (List.getElem_mem hjL)
            have hps := unhide hPos _ (List.getElem_mem hjL)
            have hll := unhide hLl _ (List.getElem_mem hjL)
            generalize L[j] = l at gc ol hin hps hll
            obtain ⟨gl, _, e1, _, _⟩ := own_at ol hps
            cases e1
            have px := hide (own_px ol (px_list l))
            replace gc := hide gc
            replace hin := hide hin
            clear o1 k1 ol
            go_wp2_with fail
            go_loopw [9] (fun i u => ∃ t : Nat, t ≤ l.length ∧ i = .int .i64 t ∧ Hid (Below W8.heap.size W8 u)) (fun i _ => l.length - (intOf i).toNat)
            case atStart => exact ⟨0, Nat.zero_le _, rfl, B2⟩
            case round =>
              clear B2
              obtain ⟨t, ht, rfl, B2⟩ := hrel
              have gc1 := kc (unhide B2) (unhide gc)
              by_cases htl : t < l.length
              · obtain ⟨_, e1, p0, p1⟩ := unhide px t htl
                cases e1
                have hJp := unhide hin (listP l t) (lP_mem htl)
                generalize listP l t = p at p0 p1 hJp
                obtain ⟨x, y⟩ := p
                dsimp only at p0 p1
                have EB := hide (specInBox_any J0 J1 J2 J3 x y)
                rw [show inBoxB J0 J1 J2 J3 x y = true from in_box' (J := ⟨J0, J1, J2, J3⟩) hJp] at EB
                have bt : (t : Int) < (l.length : Int) := by omega
                have bj : (j : Int) < (N : Int) := by omega
                have K0 : Hid (∀ u, Below wr.heap.size wr u → (u.cell? ⟨w5.heap.size, 0, none⟩ = some (.int .i64 J0) ∧ u.cell? ⟨w5.heap.size, 1, none⟩ = some (.int .i64 J1) ∧ u.cell? ⟨w5.heap.size, 2, none⟩ = some (.int .i64 J2) ∧ u.cell? ⟨w5.heap.size, 3, none⟩ = some (.int .i64 J3) ∧ u.cell? ⟨g, j, none⟩ = some (.slice (some ⟨gl, 0, none⟩) l.length cl) ∧ u.cell? ⟨gl, t * 2, none⟩ = some (.int .i64 x) ∧ u.cell? ⟨gl, t * 2 + 1, none⟩ = some (.int .i64 y) ∧ Below wr.heap.size wr u)) := fun u h => by
                  obtain ⟨y0, y1, y2, y3⟩ := row4 (row_next (below_two (unhide B2) h) (unhide Q))
                  exact ⟨y0, y1, y2, y3, kc h gc1, kc (below_two (unhide B2) h) p0, kc (below_two (unhide B2) h) p1, h⟩
                have KS : ∀ u, (u.cell? ⟨w5.heap.size, 0, none⟩ = some (.int .i64 J0) ∧ u.cell? ⟨w5.heap.size, 1, none⟩ = some (.int .i64 J1) ∧ u.cell? ⟨w5.heap.size, 2, none⟩ = some (.int .i64 J2) ∧ u.cell? ⟨w5.heap.size, 3, none⟩ = some (.int .i64 J3) ∧ u.cell? ⟨g, j, none⟩ = some (.slice (some ⟨gl, 0, none⟩) l.length cl) ∧ u.cell? ⟨gl, t * 2, none⟩ = some (.int .i64 x) ∧ u.cell? ⟨gl, t * 2 + 1, none⟩ = some (.int .i64 y) ∧ Below wr.heap.size wr u) → Below wr.heap.size wr u := fun u h => h.2.2.2.2.2.2.2
                clear p0 p1 hJp
                go_upto_region 20 with fail
                go_region_held3 (fun u => u.cell? ⟨w5.heap.size, 0, none⟩ = some (.int .i64 J0) ∧ u.cell? ⟨w5.heap.size, 1, none⟩ = some (.int .i64 J1) ∧ u.cell? ⟨w5.heap.size, 2, none⟩ = some (.int .i64 J2) ∧ u.cell? ⟨w5.heap.size, 3, none⟩ = some (.int .i64 J3) ∧ u.cell? ⟨g, j, none⟩ = some (.slice (some ⟨gl, 0, none⟩) l.length cl) ∧ u.cell? ⟨gl, t * 2, none⟩ = some (.int .i64 x) ∧ u.cell? ⟨gl, t * 2 + 1, none⟩ = some (.int .i64 y) ∧ Below wr.heap.size wr u) ((with_reducible refine unhide K0 _ ?_; first | with_reducible exact (Below.refl _ _).drew | with_reducible assumption)) (first | (go_at_call 10; go_fit (unhide EB _); rintro r w4 ⟨rfl, hb4⟩; have hW4 := below_after hb4 (KS _ (by with_reducible assumption)) (Nat.le_refl _)))
                all_goals
                  have hW9 := KS _ (by with_reducible assumption)
                  go_wp2_with fail
                  go_roundw
                  case rel => exact ⟨t + 1, by omega, by go_num, below_two (unhide B2) hW9⟩
                  case measure => simp [intOf]; omega
              · have hte : t = l.length := by omega
                have bt : ¬ (t : Int) < (l.length : Int) := by omega
                have bj : (j : Int) < (N : Int) := by omega
                replace hte := hide hte
                go_wp2_with fail
                go_roundw
                case rel => exact ⟨j + 1, by omega, by go_num, B2⟩
                case measure => simp [intOf]; omega
          · have hje : j = N := by omega
            subst hje
            clear hlt hj
            obtain ⟨M, hM⟩ : ∃ M, j = M + 1 := ⟨j - 1, by omega⟩
            have hML : M < L.length := by rw [← unhide hN]; omega
            obtain ⟨al, cl, _, gc, ol⟩ := line_at o1 k1 (unhide hN) hML
            have hps := unhide hPos _ (List.getElem_mem hML)
            have hll := unhide hLl _ (List.getElem_mem hML)
            have hcl : Hid (vf (k - 1) = 5 → firstP L[M] = lastP L[M]) := fun h5 => by
              obtain ⟨D, l, e, h⟩ := unhide hlast h5
              have e2 : L[M]? = some l := by
                have h3 : D.length = M := by have h4 := congrArg List.length e; rw [← unhide hN, List.length_append, List.length_singleton] at h4; omega
                rw [e, ← h3, List.getElem?_concat_length]
              rw [List.getElem?_eq_getElem hML] at e2
              injection e2 with e2
              rw [e2]; exact h
            generalize L[M] = l at gc ol hps hll hcl
            obtain ⟨gl, _, e1, _, _⟩ := own_at ol hps
            cases e1
            have px := own_px ol (px_list l)
            obtain ⟨_, e1, f0, f1⟩ := px 0 hps
            cases e1
            obtain ⟨q, hq⟩ : ∃ q, l.length = q + 1 := ⟨l.length - 1, by omega⟩
            obtain ⟨_, e1, t0, t1⟩ := px q (by omega)
            cases e1
            clear px
            rw [← first_pt hq] at f0 f1
            rw [← last_pt hq] at t0 t1
            obtain ⟨l0, tl, eL, hl0⟩ := unhide hFst
            have h0L : 0 < L.length := by rw [eL]; simp
            have hg0 : L[0] = l0 := by simp [eL]
            obtain ⟨al0, cl0, _, gc0, ol0⟩ := line_at o1 k1 (unhide hN) h0L
            have hps0 := unhide hPos _ (List.getElem_mem h0L)
            rw [hg0] at gc0 ol0 hps0
            obtain ⟨gf, _, e1, _, _⟩ := own_at ol0 hps0
            cases e1
            obtain ⟨q0, hq0⟩ : ∃ q, l0.length = q + 1 := ⟨l0.length - 1, by omega⟩
            obtain ⟨_, e1, s0, s1⟩ := own_px ol0 (px_list l0) 0 hps0
            cases e1
            rw [← first_pt hq0, hl0] at s0 s1
            obtain ⟨kk, hkk⟩ : ∃ kk, k = kk + 1 := ⟨k - 1, by omega⟩
            obtain ⟨sv, ov, ev, vc⟩ := (unhide PV).ints (k - 1) (by omega)
            subst ev
            obtain ⟨sp, op, ep, pc0, pc1⟩ := (unhide PV).pts 0 hm0
            subst ep
            generalize vf (k - 1) = z at vc hcl
            generalize pf 0 = p at s0 s1 pc0 pc1
            obtain ⟨px, py⟩ := p
            dsimp only at s0 s1 pc0 pc1
            have vc' : W8.cell? ⟨sv, ov + kk, none⟩ = some (.int .i64 z) := by rw [show kk = k - 1 by omega]; exact vc
            have pc0' : W8.cell? ⟨sp, op, none⟩ = some (.int .i64 px) := by simpa using pc0
            have pc1' : W8.cell? ⟨sp, op + 1, none⟩ = some (.int .i64 py) := by simpa using pc1
            have f0' : W8.cell? ⟨gl, 0, none⟩ = some (.int .i64 (firstP l).1) := by simpa using f0
            have f1' : W8.cell? ⟨gl, 1, none⟩ = some (.int .i64 (firstP l).2) := by simpa using f1
            have s0' : W8.cell? ⟨gf, 0, none⟩ = some (.int .i64 px) := by simpa using s0
            have s1' : W8.cell? ⟨gf, 1, none⟩ = some (.int .i64 py) := by simpa using s1
            clear vc pc0 pc1 f0 f1 s0 s1 o1 k1 ol ol0 eL
            generalize firstP l = fa at f0' f1' hcl
            generalize lastP l = la at t0 t1 hcl
            obtain ⟨fx, fy⟩ := fa
            obtain ⟨lx, ly⟩ := la
            dsimp only at f0' f1' t0 t1
            have hwM : IntKind.i64.wrap ((j : Int) - 1) = (M : Int) := by rw [IntWalk.i64_in _ (by omega)]; omega
            have hwM2 : (j : Int) - 1 = (M : Int) := by omega
            have hwM3 : IntKind.i64.wrap (M : Int) = (M : Int) := IntWalk.i64_in _ (by omega)
            have bM : (M : Int) < (j : Int) := by omega
            have b0j : (0 : Int) < (j : Int) := by omega
            have hwk : IntKind.i64.wrap ((k : Int) - 1) = (kk : Int) := by rw [IntWalk.i64_in _ (by omega)]; omega
            have hwk2 : (k : Int) - 1 = (kk : Int) := by omega
            have hwk3 : IntKind.i64.wrap (kk : Int) = (kk : Int) := IntWalk.i64_in _ (by omega)
            have bk : (kk : Int) < (k : Int) := by omega
            have hwq : IntKind.i64.wrap ((l.length : Int) - 1) = (q : Int) := by rw [IntWalk.i64_in _ (by omega)]; omega
            have hwq2 : (l.length : Int) - 1 = (q : Int) := by omega
            have hwq3 : IntKind.i64.wrap (q : Int) = (q : Int) := IntWalk.i64_in _ (by omega)
            have bq : (q : Int) < (l.length : Int) := by omega
            have bl0 : (0 : Int) < (l.length : Int) := by omega
            have bf0 : (0 : Int) < (l0.length : Int) := by omega
            have bm0 : (0 : Int) < (m : Int) := by omega
            replace hM := hide hM
            replace hkk := hide hkk
            replace hq := hide hq
            replace hq0 := hide hq0
            have gcw := kc (unhide B2) gc
            go_upto_region 23 with fail
            clear gcw
            obtain ⟨I, F, hI, F1, F2⟩ := kept_worlds wr
            have hA := fun i => below_two (unhide B2) (F2 i)
            have z0 : ∀ i, (F i).cell? ⟨w2.heap.size, 0, none⟩ = some (.slice (some ⟨sv, ov, none⟩) k c1) := fun i => (row2 (row_next (hA i) (unhide R))).1
            have z1 : ∀ i, (F i).cell? ⟨sv, ov + kk, none⟩ = some (.int .i64 z) := fun i => kc (hA i) vc'
            have z2 : ∀ i, (F i).cell? ⟨gl, 0, none⟩ = some (.int .i64 fx) := fun i => kc (hA i) f0'
            have z3 : ∀ i, (F i).cell? ⟨gl, 1, none⟩ = some (.int .i64 fy) := fun i => kc (hA i) f1'
            have z4 : ∀ i, (F i).cell? ⟨gl, q * 2, none⟩ = some (.int .i64 lx) := fun i => kc (hA i) t0
            have z5 : ∀ i, (F i).cell? ⟨gl, q * 2 + 1, none⟩ = some (.int .i64 ly) := fun i => kc (hA i) t1
            replace hA := hide hA
            replace F1 := hide F1
            replace F2 := hide F2
            go_cut [95] (fun s u => s = .bool false ∧ Hid (Below wr.heap.size wr u))
            case first =>
              by_cases h5 : z = 5
              · have h5' : (z == 5) = true := by simp [h5]
                have he := unhide hcl h5
                injection he with e1 e2
                subst e1 e2
                replace h5 := hide h5
                refine wp_region_quiet_in (unhide F1) (by kernel_rfl) (by kernel_rfl) ?_
                repeat (go_big_quiet_step (fail))
                refine wpQuiet_nil ?_
                rintro _ ⟨i, rfl⟩
                have hF := unhide F2 i
                clear z0 z1 z2 z3 z4 z5
                go_wp2_with fail
                go_meet
                exact ⟨rfl, hF⟩
              · have h5' : (z == 5) = false := by simp [h5]
                replace h5 := hide h5
                refine wp_region_quiet_in (unhide F1) (by kernel_rfl) (by kernel_rfl) ?_
                repeat (go_big_quiet_step (fail))
                refine wpQuiet_nil ?_
                rintro _ ⟨i, rfl⟩
                have hF := unhide F2 i
                clear z0 z1 z2 z3 z4 z5
                go_wp2_with fail
                go_meet
                exact ⟨rfl, hF⟩
            case rest =>
              obtain ⟨rfl, B3⟩ := hcut
              clear z0 z1 z2 z3 z4 z5 hA F1 F2
              replace B3 := hide (below_two (unhide B2) (unhide B3))
              go_upto_region 25 with fail
              obtain ⟨I', F', hI', F1, F2⟩ := kept_worlds wc
              have hA := fun i => below_two (unhide B3) (F2 i)
              have z0 : ∀ i, (F' i).cell? ⟨w2.heap.size, 1, none⟩ = some (.slice (some ⟨sp, op, none⟩) m c2) := fun i => (row2 (row_next (hA i) (unhide R))).2
              have z1 : ∀ i, (F' i).cell? ⟨g, 0, none⟩ = some (.slice (some ⟨gf, 0, none⟩) l0.length cl0) := fun i => kc (hA i) gc0
              have z2 : ∀ i, (F' i).cell? ⟨gf, 0, none⟩ = some (.int .i64 px) := fun i => kc (hA i) s0'
              have z3 : ∀ i, (F' i).cell? ⟨gf, 1, none⟩ = some (.int .i64 py) := fun i => kc (hA i) s1'
              have z4 : ∀ i, (F' i).cell? ⟨sp, op, none⟩ = some (.int .i64 px) := fun i => kc (hA i) pc0'
              have z5 : ∀ i, (F' i).cell? ⟨sp, op + 1, none⟩ = some (.int .i64 py) := fun i => kc (hA i) pc1'
              replace hA := hide hA
              replace F1 := hide F1
              replace F2 := hide F2
              refine wp_region_quiet_in (unhide F1) (by kernel_rfl) (by kernel_rfl) ?_
              repeat (go_big_quiet_step (fail))
              refine wpQuiet_nil ?_
              rintro _ ⟨i, rfl⟩
              have hF := unhide hA i
              clear z0 z1 z2 z3 z4 z5
              go_wp2_with fail
              go_ret
              exact ⟨rfl, below_two (unhide HB) hF⟩
  · go_enter Try.func4, Try.ntmps4
    go_wp2_with (go_at_call 7; go_must (refine (big_yes a0 len0 cap0 hl _).mono ?_); rintro e w1 ⟨rfl, rfl⟩)
    go_ret
    exact ⟨rfl, Below.refl _ _⟩
end Go.Proofs.Ytkhacppaemilgaa
