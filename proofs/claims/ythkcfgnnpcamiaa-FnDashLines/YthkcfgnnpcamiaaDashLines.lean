/-
  The law of dashes on drawn lines.
-/
import Derived.Test.YthkcfgnnpcamiaaDashT
import Derived.Test.YthkcfgnnpcamiaaQuot
namespace Go.Proofs.Ythkcfgnnpcamiaa
open Go.RowKit
set_option linter.unusedVariables false

attribute [local go_sem ↓] eqlPoint in
set_option maxHeartbeats 16000000 in
set_option maxRecDepth 100000 in
theorem fnDashLines_walk (a0 : Option Addr) (len0 cap0 : Nat) (z0 : List Int) (w : World) (w0 : IsRow .u8 w a0 len0 cap0 z0) :
    Calls Try.prog 4 #[.slice a0 len0 cap0] w fun e w' => e = .returned (.bool true) ∧ Below w.heap.size w w' := by
  by_cases hl : len0 ≤ 1048576
  · have HI := hide (InB.of_row w0)
    clear w0
    go_enter Try.func4, Try.ntmps4
    go_wp2_with fail
    refine (big_no a0 len0 cap0 hl _).mono ?_
    rintro r w1 ⟨rfl, rfl⟩
    go_wp2_with fail
    refine (drawPoints_any a0 len0 cap0 _ hl (unhide HI)).mono ?_
    rintro r w2 ⟨v, l, hl4, hl8, hsm, rfl, hown, hb2⟩
    obtain ⟨n, hn⟩ : ∃ n, n = l.length := ⟨_, rfl⟩
    have hlok := line_ok hsm
    have hlist := listN_listP l
    rw [← hn] at hl4 hl8 hlok hlist
    obtain ⟨la, lc, e1⟩ := own_form hown
    rw [← hn] at e1 hown
    subst e1
    have HP := hide (fun (u : World) (hu : Below w2.heap.size w2 u) i (hi : i < n) => (own_pxa hown (by rw [hn]; exact px_list l) i hi).next hu)
    generalize listP l = pf at HP hlok hlist
    have HB := hide hb2
    replace HI := hide ((unhide HI).next hb2)
    clear hown hb2 hsm hn
    go_wp2_with fail
    refine (drawPlaces_any a0 len0 cap0 _ hl (unhide HI)).mono ?_
    rintro r w3 ⟨vp, p, hp12, hpb, rfl, hop, hb3⟩
    obtain ⟨pp, pc, rfl, _, _, _, hpp⟩ := row_form hop
    obtain ⟨gp, rfl, hgp1, hgp2⟩ := hpp (by omega)
    obtain ⟨x0, hx0, c0⟩ := place_at hop hpb 0 (by omega)
    obtain ⟨x1, hx1, c1⟩ := place_at hop hpb 1 (by omega)
    rw [hp12]
    have B23 := hide hb3
    replace HB := hide (below_two (unhide HB) hb3)
    clear hop hb3 hpb HI hgp1 hgp2
    -- without dashes
    have E0 := hide (fun (u : World) (hu : Below w2.heap.size w2 u) (b : Nat) => implDashOf_any pf la n lc (fun _ => 0) (some ⟨b, 0, none⟩) 0 0 7 (by omega) (by omega) u (unhide HP u hu) (fun i hi => absurd hi (by omega)))
    have hG0 : dashGo n pf 0 (fun _ => 0) 7 := ⟨by rw [dashOk_iff]; exact ⟨rfl, by omega, fun i hi => absurd hi (by omega)⟩, by decide, by omega, hlok⟩
    rw [dashL_none hG0 rfl, show (List.range n).map pf = listN pf n from rfl] at E0
    clear hG0
    go_wp2_with fail
    go_fit (unhide E0 _ (below_two (unhide B23) (al1_below _ _)) _)
    rintro r w4 ⟨v, rfl, la1, hb4⟩
    obtain ⟨aa, ca, e1⟩ := la1.form
    subst e1
    have B24 := hide (below_two (below_two (unhide B23) (al1_below _ _)) hb4)
    replace HB := hide (below_two (below_two (unhide HB) (al1_below _ _)) hb4)
    replace c0 := kc (below_two (al1_below _ _) hb4) c0
    replace c1 := kc (below_two (al1_below _ _) hb4) c1
    replace la1 := hide la1
    clear hb4 E0 B23
    -- two dashes
    have q0 : IntKind.i64.wrap (30 + x0 % 500) = 30 + x0 % 500 := IntWalk.i64_in _ (by omega)
    have q1 : IntKind.i64.wrap (30 + x1 % 500) = 30 + x1 % 500 := IntWalk.i64_in _ (by omega)
    go_wp2_with fail
    go_region
    have RD := hide (show (w4.alloc (.cells #[.int .i64 (30 + x0 % 500), .int .i64 (30 + x1 % 500)] 3)).drew.heap[w4.heap.size]? = some (.cells #[.int .i64 (30 + x0 % 500), .int .i64 (30 + x1 % 500)] 3 (0, 0)) from al1_0 _ _)
    have hbn : Below w4.heap.size w4 (w4.alloc (.cells #[.int .i64 (30 + x0 % 500), .int .i64 (30 + x1 % 500)] 3)).drew := (al1_below _ _).drew
    have hd0 : 30 ≤ 30 + x0 % 500 ∧ 30 + x0 % 500 ≤ 529 := by omega
    have hd1 : 30 ≤ 30 + x1 % 500 ∧ 30 + x1 % 500 ≤ 529 := by omega
    generalize 30 + x0 % 500 = d0 at RD hbn hd0 ⊢
    generalize 30 + x1 % 500 = d1 at RD hbn hd1 ⊢
    generalize (w4.alloc (.cells #[.int .i64 d0, .int .i64 d1] 3)).drew = W5 at RD hbn ⊢
    replace la1 := hide ((unhide la1).next hbn)
    replace B24 := hide (below_two (unhide B24) hbn)
    replace HB := hide (below_two (unhide HB) hbn)
    generalize w4.heap.size = gd at RD ⊢
    clear hbn c0 c1 q0 q1 hx0 hx1 hpp
    have hok := ds2_ok (d0 := d0) (d1 := d1) (by omega) (by omega)
    have EI := hide (fun (ph : Int) (u : World) (hu : Below w2.heap.size w2 u) (hr : u.heap[gd]? = some (.cells #[.int .i64 d0, .int .i64 d1] 3 (0, 0))) => implDashOf_any pf la n lc (ds2 d0 d1) (some ⟨gd, 0, none⟩) 2 2 ph (by omega) (by omega) u (unhide HP u hu) (ds2_arg hr))
    have EI2 := hide (fun u hu hr => unhide EI (5 + d0 + d1) u hu hr)
    rw [dash_phase (by omega) (by omega) (by omega) hlok] at EI2
    have EI1 := hide (fun u hu hr => unhide EI 5 u hu hr)
    have ES := hide (fun (u : World) (hu : Below w2.heap.size w2 u) (hr : u.heap[gd]? = some (.cells #[.int .i64 d0, .int .i64 d1] 3 (0, 0))) => specDashOf_any pf la n lc (ds2 d0 d1) (some ⟨gd, 0, none⟩) 2 2 5 (by omega) (by omega) u (unhide HP u hu) (ds2_arg hr))
    obtain ⟨hLn, hLl⟩ := dashL_len (n := n) (pf := pf) (m := 2) (ds := ds2 d0 d1) (ph := 5) (by omega)
    have hLb := dash_big (n := n) (pf := pf) (m := 2) (ds := ds2 d0 d1) (ph := 5) (by decide)
    generalize dashL n pf 2 (ds2 d0 d1) 5 = L at EI1 EI2 ES hLn hLl hLb
    obtain ⟨N, hN⟩ : ∃ N, Hid (N = L.length) := ⟨_, rfl⟩
    have EL := hide (fun (a b : Option Addr) (c d base base' : Nat) (w : World) h h' => sameLines_any L a b N c d base base' (unhide hN) (by omega) (fun l hl => by have := hLl l hl; omega) w h h')
    have hNn : N ≤ 4200000000000 := by rw [unhide hN]; exact hLn
    replace hLb := hide hLb
    clear EI hLn hLl hok
    go_wp2_with fail
    go_fit (unhide EI1 _ (unhide B24) (unhide RD))
    rintro r w6 ⟨v, rfl, lb1, hb6⟩
    obtain ⟨ab, cb, e1⟩ := lb1.form
    rw [← unhide hN] at e1
    subst e1
    replace la1 := hide ((unhide la1).next hb6)
    replace lb1 := hide lb1
    replace RD := hide (row_next hb6 (unhide RD))
    replace B24 := hide (below_two (unhide B24) hb6)
    replace HB := hide (below_two (unhide HB) hb6)
    clear hb6 EI1
    -- a phase of all dashes
    have q2 : IntKind.i64.wrap (5 + d0) = 5 + d0 := IntWalk.i64_in _ (by omega)
    have q3 : IntKind.i64.wrap (5 + d0 + d1) = 5 + d0 + d1 := IntWalk.i64_in _ (by omega)
    have K0 : Hid (∀ u, Below w6.heap.size w6 u → (u.cell? ⟨gd, 0, none⟩ = some (.int .i64 d0) ∧ u.cell? ⟨gd, 1, none⟩ = some (.int .i64 d1) ∧ Below w6.heap.size w6 u)) := fun u h => ⟨(row2 (row_next h (unhide RD))).1, (row2 (row_next h (unhide RD))).2, h⟩
    have kS : Hid (∀ u, (u.cell? ⟨gd, 0, none⟩ = some (.int .i64 d0) ∧ u.cell? ⟨gd, 1, none⟩ = some (.int .i64 d1) ∧ Below w6.heap.size w6 u) → Below w6.heap.size w6 u) := fun u h => h.2.2
    go_upto_region 8 with fail
    go_cut [8] (fun s u => ∃ ac cc, s = .slice ac N cc ∧ Hid (∃ base, LinesV u base (.slice ac N cc) L) ∧ Below w6.heap.size w6 u)
    case first =>
      go_region_held3 (fun u => u.cell? ⟨gd, 0, none⟩ = some (.int .i64 d0) ∧ u.cell? ⟨gd, 1, none⟩ = some (.int .i64 d1) ∧ Below w6.heap.size w6 u) ((first | with_reducible assumption | (refine unhide K0 _ ?_; first | with_reducible exact (Below.refl _ _).drew | with_reducible assumption))) (first | (go_at_call 10; go_fit (unhide EI2 _ (below_two (unhide B24) (unhide kS _ (by with_reducible assumption))) (row_next (unhide kS _ (by with_reducible assumption)) (unhide RD))); rintro r w7 ⟨v, rfl, lc1, hb7⟩; obtain ⟨ac, cc, e1⟩ := lc1.form; rw [← unhide hN] at e1; subst e1; replace lc1 := hide lc1; have h7 := below_after hb7 (unhide kS _ (by with_reducible assumption)) (Nat.le_refl _)))
      all_goals
        have h9 := unhide kS _ (by with_reducible assumption)
        go_wp2_with fail
        go_meet
        exact ⟨_, _, rfl, ⟨_, unhide lc1⟩, h9⟩
    case rest =>
      obtain ⟨ac, cc, rfl, lc1, hb7⟩ := hcut
      obtain ⟨bc, lc1⟩ := unhide lc1
      replace lc1 := hide lc1
      replace la1 := hide ((unhide la1).next hb7)
      replace lb1 := hide ((unhide lb1).next hb7)
      replace RD := hide (row_next hb7 (unhide RD))
      replace B24 := hide (below_two (unhide B24) hb7)
      replace HB := hide (below_two (unhide HB) hb7)
      clear hb7 K0 kS EI2 q2 q3
      go_wp2_with fail
      -- how long the line is
      go_loopw [9, 10] (fun s i u => ∃ (k : Nat) (S : Int), k + 1 ≤ n ∧ i = .int .i64 ((k : Int) + 1) ∧ s = .int .i64 S ∧ 0 ≤ S ∧ S ≤ 23726566 * (k : Int) ∧ Hid (Below wc.heap.size wc u)) (fun _ i _ => n - (intOf i).toNat)
      case atStart => exact ⟨0, 0, by omega, rfl, rfl, by omega, by omega, Below.refl _ _⟩
      case round =>
        obtain ⟨q, S, hq, rfl, rfl, hS0, hS1, hbq⟩ := hrel
        by_cases hlt : q + 1 < n
        · have hbw := hide (below_two (unhide B24) (unhide hbq))
          obtain ⟨za, hza⟩ : ∃ z, Hid (pf q = z) := ⟨_, rfl⟩
          obtain ⟨zb, hzb⟩ : ∃ z, Hid (pf (q + 1) = z) := ⟨_, rfl⟩
          obtain ⟨xa, ya⟩ := za
          obtain ⟨xb, yb⟩ := zb
          obtain ⟨s0, o0, rfl, _, _⟩ := unhide HP _ (unhide hbw) q (by omega)
          have K0 : Hid (∀ u, Below wr.heap.size wr u → (u.cell? ⟨s0, o0 + q * 2, none⟩ = some (.int .i64 xa) ∧ u.cell? ⟨s0, o0 + q * 2 + 1, none⟩ = some (.int .i64 ya) ∧ u.cell? ⟨s0, o0 + (q + 1) * 2, none⟩ = some (.int .i64 xb) ∧ u.cell? ⟨s0, o0 + (q + 1) * 2 + 1, none⟩ = some (.int .i64 yb) ∧ Below wr.heap.size wr u)) := fun u h => by
            have Pa := unhide HP _ (below_two (unhide hbw) h) q (by omega)
            have Pb := unhide HP _ (below_two (unhide hbw) h) (q + 1) hlt
            rw [unhide hza] at Pa
            rw [unhide hzb] at Pb
            obtain ⟨_, _, e1, a0, a1⟩ := Pa
            cases e1
            obtain ⟨_, _, e1, b0, b1⟩ := Pb
            cases e1
            exact ⟨a0, a1, b0, b1, h⟩
          have kS : Hid (∀ u, (u.cell? ⟨s0, o0 + q * 2, none⟩ = some (.int .i64 xa) ∧ u.cell? ⟨s0, o0 + q * 2 + 1, none⟩ = some (.int .i64 ya) ∧ u.cell? ⟨s0, o0 + (q + 1) * 2, none⟩ = some (.int .i64 xb) ∧ u.cell? ⟨s0, o0 + (q + 1) * 2 + 1, none⟩ = some (.int .i64 yb) ∧ Below wr.heap.size wr u) → Below wr.heap.size wr u) := fun u h => h.2.2.2.2
          have hlen := len_bd (lenP_is (xa, ya) (xb, yb))
          have ELn := hide (fun u => specLengthOf_any xa ya xb yb _ (lenP_is (xa, ya) (xb, yb)) u)
          generalize lenP (xa, ya) (xb, yb) = ll at hlen ELn
          have w1' : IntKind.i64.wrap ((q : Int) + 1) = (q : Int) + 1 := IntWalk.i64_in _ (by omega)
          have w2' : IntKind.i64.wrap (q : Int) = (q : Int) := IntWalk.i64_in _ (by omega)
          have w3' : IntKind.i64.wrap (S + ll) = S + ll := IntWalk.i64_in _ (by omega)
          have t1 : ((q : Int) + 1).toNat = q + 1 := by omega
          have l1 : (q : Int) < (n : Int) := by omega
          have l2 : (q : Int) + 1 < (n : Int) := by omega
          have l3 : (0 : Int) ≤ (q : Int) + 1 := by omega
          go_upto_region 13 with fail
          go_region_held3 (fun u => u.cell? ⟨s0, o0 + q * 2, none⟩ = some (.int .i64 xa) ∧ u.cell? ⟨s0, o0 + q * 2 + 1, none⟩ = some (.int .i64 ya) ∧ u.cell? ⟨s0, o0 + (q + 1) * 2, none⟩ = some (.int .i64 xb) ∧ u.cell? ⟨s0, o0 + (q + 1) * 2 + 1, none⟩ = some (.int .i64 yb) ∧ Below wr.heap.size wr u) ((first | with_reducible assumption | (refine unhide K0 _ ?_; first | with_reducible exact (Below.refl _ _).drew | with_reducible assumption))) (first | (go_at_call 13; go_fit (unhide ELn _); rintro r w8 ⟨rfl, hb8⟩; have h8 := below_after hb8 (unhide kS _ (by with_reducible assumption)) (Nat.le_refl _)))
          all_goals
            have h9 := unhide kS _ (by with_reducible assumption)
            go_wp2_with fail
            go_roundw
            case rel => exact ⟨q + 1, S + ll, by omega, by go_num, rfl, by omega, by push_cast; omega, below_two (unhide hbq) h9⟩
            case measure => simp [intOf]; omega
        · have hqi : ¬ (q : Int) + 1 < (n : Int) := by omega
          replace la1 := hide ((unhide la1).next (unhide hbq))
          replace lb1 := hide ((unhide lb1).next (unhide hbq))
          replace lc1 := hide ((unhide lc1).next (unhide hbq))
          replace RD := hide (row_next (unhide hbq) (unhide RD))
          replace B24 := hide (below_two (unhide B24) (unhide hbq))
          replace HB := hide (below_two (unhide HB) (unhide hbq))
          clear hbq
          go_wp2_with fail
          -- each stretch has two points
          go_loopw [11] (fun i u => ∃ k : Nat, k ≤ N ∧ i = .int .i64 k ∧ u = wr) (fun i _ => N - (intOf i).toNat)
          case atStart => exact ⟨0, Nat.zero_le _, rfl, rfl⟩
          case round =>
            obtain ⟨k, hk, rfl, rfl⟩ := hrel
            by_cases hkn : k < N
            · have hkL : k < L.length := by rw [← unhide hN]; exact hkn
              obtain ⟨vs, o1, k1⟩ := unhide lb1
              rw [← unhide hN] at o1
              obtain ⟨g, _, e1, _, _⟩ := own_at o1 (by omega)
              cases e1
              obtain ⟨x, cx, _, g0, _⟩ := line_at o1 k1 (unhide hN) hkL
              have h2 := unhide hLb _ (List.getElem_mem hkL)
              have h2i : ¬ (L[k].length : Int) < 2 := by omega
              have hki : (k : Int) < (N : Int) := by omega
              clear o1 k1
              generalize L[k].length = lk at g0 h2 h2i
              go_wp2_with fail
              go_roundw
              case rel => exact ⟨k + 1, by omega, by go_num, (by first | rfl | trivial)⟩
              case measure => simp [intOf]; omega
            · have hki : ¬ (k : Int) < (N : Int) := by omega
              obtain ⟨vs, o1, k1⟩ := unhide la1
              obtain ⟨ga, _, e1, _, _⟩ := own_at o1 (by simp)
              cases e1
              obtain ⟨xx, cx, _, g0, ox⟩ := line_at o1 k1 rfl (show 0 < [listN pf n].length by simp)
              rw [show ([listN pf n][0]).length = n from listN_len pf n] at g0 ox
              rw [show ([listN pf n][0]) = listN pf n from rfl] at ox
              have hPx := own_pxa ox (px_listN pf n)
              clear o1 k1 ox
              obtain ⟨za, hza⟩ : ∃ z, pf 0 = z := ⟨_, rfl⟩
              obtain ⟨zb, hzb⟩ : ∃ z, pf 1 = z := ⟨_, rfl⟩
              have oka := hlok 0 (by omega)
              have okb := hlok 1 (by omega)
              have Pa := unhide HP _ (unhide B24) 0 (by omega)
              have Pb := unhide HP _ (unhide B24) 1 (by omega)
              rw [hza] at Pa oka
              rw [hzb] at Pb okb
              obtain ⟨xa, ya⟩ := za
              obtain ⟨xb, yb⟩ := zb
              obtain ⟨s0, o0, rfl, p0, p1⟩ := Pa
              obtain ⟨_, _, e1, p2, p3⟩ := Pb
              cases e1
              dsimp only at p0 p1 p2 p3 oka okb
              have EP0 := hide (fun u => implPointAt_any xa ya xb yb 0 9 u)
              have EP9 := hide (fun u => implPointAt_any xa ya xb yb 9 9 u)
              rw [(pat_ends (a := (xa, ya)) (b := (xb, yb)) oka okb).1] at EP0
              rw [(pat_ends (a := (xa, ya)) (b := (xb, yb)) oka okb).2] at EP9
              dsimp only at EP0 EP9
              have EA := hide (fun (u : World) (hu : Below wr.heap.size wr u) => samePoints_any pf xx (some ⟨s0, o0, none⟩) n cx lc (by omega) u (fun i hi => (hPx i hi).next hu) (unhide HP u (below_two (unhide B24) hu)))
              have EBC := hide (fun (u : World) (hu : Below wr.heap.size wr u) => unhide EL _ _ _ _ _ _ u ((unhide lb1).next hu) ((unhide lc1).next hu))
              have ESD := hide (fun (u : World) (hu : Below wr.heap.size wr u) => unhide ES u (below_two (unhide B24) hu) (row_next hu (unhide RD)))
              have K0 : Hid (∀ u, Below wr.heap.size wr u → (u.cell? ⟨ga, 0, none⟩ = some (.slice xx n cx) ∧ u.cell? ⟨s0, o0, none⟩ = some (.int .i64 xa) ∧ u.cell? ⟨s0, o0 + 1, none⟩ = some (.int .i64 ya) ∧ u.cell? ⟨s0, o0 + 2, none⟩ = some (.int .i64 xb) ∧ u.cell? ⟨s0, o0 + 3, none⟩ = some (.int .i64 yb) ∧ Below wr.heap.size wr u)) := fun u h => ⟨kc h g0, kc h (by simpa using p0), kc h (by simpa using p1), kc h (by simpa using p2), kc h (by simpa using p3), h⟩
              have kS : Hid (∀ u, (u.cell? ⟨ga, 0, none⟩ = some (.slice xx n cx) ∧ u.cell? ⟨s0, o0, none⟩ = some (.int .i64 xa) ∧ u.cell? ⟨s0, o0 + 1, none⟩ = some (.int .i64 ya) ∧ u.cell? ⟨s0, o0 + 2, none⟩ = some (.int .i64 xb) ∧ u.cell? ⟨s0, o0 + 3, none⟩ = some (.int .i64 yb) ∧ Below wr.heap.size wr u) → Below wr.heap.size wr u) := fun u h => h.2.2.2.2.2
              have hn0 : (0 : Int) < (n : Int) := by omega
              have hn1 : (1 : Int) < (n : Int) := by omega
              have hm0 : 0 < n := by omega
              have hm1 : 1 < n := by omega
              clear hza hzb p0 p1 p2 p3 oka okb hPx g0 ES
              by_cases hS : S = 0
              · subst hS
                go_upto_region 19 with fail
                have K00 := hide (unhide K0 _ (Below.refl _ _).drew)
                refine wp_region_held_drew (S := fun u => u.cell? ⟨ga, 0, none⟩ = some (.slice xx n cx) ∧ u.cell? ⟨s0, o0, none⟩ = some (.int .i64 xa) ∧ u.cell? ⟨s0, o0 + 1, none⟩ = some (.int .i64 ya) ∧ u.cell? ⟨s0, o0 + 2, none⟩ = some (.int .i64 xb) ∧ u.cell? ⟨s0, o0 + 3, none⟩ = some (.int .i64 yb) ∧ Below wr.heap.size wr u) (by kernel_rfl) ?_ (fun hHeld => ?_)
                · exact unhide K00
                refine wpAnyH_take (i := 0) (oi := { dst := some 76, op := Op.move (Operand.tmp 5), type := 26, pos := "laws.go:430", after := #[], guard := none }) (v := ?_) rfl (by kernel_rfl) (by kernel_rfl) (by kernel_rfl) (fun _ _ _ h => h) (Or.inl ⟨by rfl, ?_⟩) (by assumption) ?_
                rotate_left
                · intro w hSw; (try dsimp only at hSw); go_simp <;> with_reducible rfl
                try simp only [Act.put, List.setIfInBounds_toArray, List.set_cons_zero, List.set_cons_succ]
                refine wpAnyH_take (i := 1) (oi := { dst := some 77, op := Op.call { callee := Callee.builtin Builtin.len, args := #[Operand.tmp 76], argTypes := #[26] }, type := 3, pos := "laws.go:430", after := #[{ on := 0, ground := Ground.data }], guard := none }) (v := ?_) rfl (by kernel_rfl) (by kernel_rfl) (by kernel_rfl) (fun _ _ _ h => h) (Or.inl ⟨by rfl, ?_⟩) (by assumption) ?_
                rotate_left
                · intro w hSw; (try dsimp only at hSw); go_simp <;> with_reducible rfl
                try simp only [Act.put, List.setIfInBounds_toArray, List.set_cons_zero, List.set_cons_succ]
                refine wpAnyH_take (i := 2) (oi := { dst := some 78, op := Op.binOp BinOp.eql 3 (Operand.tmp 77) (Operand.const (Value.int IntKind.i64 1)) 3, type := 4, pos := "laws.go:430", after := #[{ on := 1, ground := Ground.data }], guard := none }) (v := ?_) rfl (by kernel_rfl) (by kernel_rfl) (by kernel_rfl) (fun _ _ _ h => h) (Or.inl ⟨by rfl, ?_⟩) (by assumption) ?_
                rotate_left
                · intro w hSw; (try dsimp only at hSw); go_simp <;> with_reducible rfl
                try simp only [Act.put, List.setIfInBounds_toArray, List.set_cons_zero, List.set_cons_succ]
                refine wpAnyH_take (i := 3) (oi := { dst := some 79, op := Op.move (Operand.tmp 78), type := 4, pos := "laws.go:430", after := #[{ on := 2, ground := Ground.data }], guard := none }) (v := ?_) rfl (by kernel_rfl) (by kernel_rfl) (by kernel_rfl) (fun _ _ _ h => h) (Or.inl ⟨by rfl, ?_⟩) (by assumption) ?_
                rotate_left
                · intro w hSw; (try dsimp only at hSw); go_simp <;> with_reducible rfl
                try simp only [Act.put, List.setIfInBounds_toArray, List.set_cons_zero, List.set_cons_succ]
                refine wpAnyH_take (i := 4) (oi := { dst := some 80, op := Op.move (Operand.tmp 5), type := 26, pos := "laws.go:430", after := #[{ on := 3, ground := Ground.guard }], guard := some (3, true) }) (v := ?_) rfl (by kernel_rfl) (by kernel_rfl) (by kernel_rfl) (fun _ _ _ h => h) (Or.inl ⟨by rfl, ?_⟩) (by assumption) ?_
                rotate_left
                · intro w hSw; (try dsimp only at hSw); go_simp <;> with_reducible rfl
                try simp only [Act.put, List.setIfInBounds_toArray, List.set_cons_zero, List.set_cons_succ]
                refine wpAnyH_take (i := 5) (oi := { dst := some 81, op := Op.indexAddr 26 (Operand.tmp 80) (Operand.const (Value.int IntKind.i64 0)), type := 0, pos := "laws.go:430", after := #[{ on := 4, ground := Ground.data }, { on := 3, ground := Ground.guard }], guard := some (3, true) }) (v := ?_) rfl (by kernel_rfl) (by kernel_rfl) (by kernel_rfl) (fun _ _ _ h => h) (Or.inl ⟨by rfl, ?_⟩) (by assumption) ?_
                rotate_left
                · intro w hSw; (try dsimp only at hSw); go_simp <;> with_reducible rfl
                try simp only [Act.put, List.setIfInBounds_toArray, List.set_cons_zero, List.set_cons_succ]
                refine wpAnyH_take (i := 6) (oi := { dst := some 82, op := Op.load 30 (Operand.tmp 81), type := 30, pos := "laws.go:430", after := #[{ on := 5, ground := Ground.data }, { on := 3, ground := Ground.guard }], guard := some (3, true) }) (v := ?_) rfl (by kernel_rfl) (by kernel_rfl) (by kernel_rfl) (fun _ _ _ h => h) (Or.inl ⟨by rfl, ?_⟩) (by assumption) ?_
                rotate_left
                · intro w hSw; (try dsimp only at hSw); go_simp <;> with_reducible rfl
                try simp only [Act.put, List.setIfInBounds_toArray, List.set_cons_zero, List.set_cons_succ]
                refine wpAnyH_take (i := 7) (oi := { dst := some 83, op := Op.move (Operand.tmp 3), type := 30, pos := "laws.go:430", after := #[{ on := 3, ground := Ground.guard }], guard := some (3, true) }) (v := ?_) rfl (by kernel_rfl) (by kernel_rfl) (by kernel_rfl) (fun _ _ _ h => h) (Or.inl ⟨by rfl, ?_⟩) (by assumption) ?_
                rotate_left
                · intro w hSw; (try dsimp only at hSw); go_simp <;> with_reducible rfl
                try simp only [Act.put, List.setIfInBounds_toArray, List.set_cons_zero, List.set_cons_succ]
                refine wpAnyH_ready (rs := [8]) (by kernel_rfl) (by simp) ?_
                refine AllReadyH.cons (o := { dst := some 84, op := Op.call { callee := Callee.value (Operand.func 14), args := #[Operand.tmp 82, Operand.tmp 83], argTypes := #[30, 30] }, type := 4, pos := "laws.go:430", after := #[{ on := 6, ground := Ground.data }, { on := 7, ground := Ground.data }, { on := 3, ground := Ground.chain }, { on := 3, ground := Ground.guard }], guard := some (3, true) }) rfl (fun K hK => ?_) AllReadyH.nil
                go_simp
                (first | (go_at_call 14; go_fit (unhide EA _ (unhide kS _ (by with_reducible assumption))); rintro r v1 ⟨rfl, hv1⟩; have hV1 := below_after hv1 (unhide kS _ (by with_reducible assumption)) (Nat.le_refl _)) | (go_at_call 15; go_fit (unhide EBC _ (unhide kS _ (by with_reducible assumption))); rintro r v2 ⟨rfl, hv2⟩; have hV2 := below_after hv2 (unhide kS _ (by with_reducible assumption)) (Nat.le_refl _)) | (go_at_call 16; go_fit (unhide ESD _ (unhide kS _ (by with_reducible assumption))); rintro r v3 ⟨vv, rfl, lv3, hv3⟩; obtain ⟨av, cv, e1⟩ := lv3.form; rw [← unhide hN] at e1; subst e1; replace lv3 := hide lv3; have hV3 := below_after hv3 (unhide kS _ (by with_reducible assumption)) (Nat.le_refl _); clear hv3) | (go_at_call 15; go_fit (unhide EL _ _ _ _ _ _ _ ((unhide lb1).next (unhide kS _ (by with_reducible assumption))) (unhide lv3)); rintro r v4 ⟨rfl, hv4⟩; have hV4 := below_after hv4 (unhide kS _ (by with_reducible assumption)) (Nat.le_refl _)) | (go_at_call 17; go_fit (unhide EP0 _); rintro r v5 ⟨rfl, hv5⟩; have hV5 := below_after hv5 (unhide kS _ (by with_reducible assumption)) (Nat.le_refl _)) | (go_at_call 17; go_fit (unhide EP9 _); rintro r v6 ⟨rfl, hv6⟩; have hV6 := below_after hv6 (unhide kS _ (by with_reducible assumption)) (Nat.le_refl _)))
                refine hK.out _ _ ?_ (fun hHeld => ?_)
                · (first | assumption | (refine unhide K0 _ ?_; assumption))
                clear hK K
                try simp only [Act.put, List.setIfInBounds_toArray, List.set_cons_zero, List.set_cons_succ]
                refine wpAnyH_take (i := 9) (oi := { dst := some 85, op := Op.pick (Operand.tmp 79) (Operand.tmp 84) (Operand.const (Value.bool false)), type := 4, pos := "laws.go:430", after := #[{ on := 3, ground := Ground.data }, { on := 8, ground := Ground.data }], guard := none }) (v := ?_) rfl (by kernel_rfl) (by kernel_rfl) (by kernel_rfl) (fun _ _ _ h => h) (Or.inl ⟨by rfl, ?_⟩) (by assumption) ?_
                rotate_left
                · intro w hSw; (try dsimp only at hSw); go_simp <;> with_reducible rfl
                try simp only [Act.put, List.setIfInBounds_toArray, List.set_cons_zero, List.set_cons_succ]
                refine wpAnyH_take (i := 10) (oi := { dst := some 86, op := Op.move (Operand.tmp 85), type := 4, pos := "laws.go:430", after := #[{ on := 9, ground := Ground.data }, { on := 8, ground := Ground.chain }], guard := none }) (v := ?_) rfl (by kernel_rfl) (by kernel_rfl) (by kernel_rfl) (fun _ _ _ h => h) (Or.inl ⟨by rfl, ?_⟩) (by assumption) ?_
                rotate_left
                · intro w hSw; (try dsimp only at hSw); go_simp <;> with_reducible rfl
                try simp only [Act.put, List.setIfInBounds_toArray, List.set_cons_zero, List.set_cons_succ]
                refine wpAnyH_take (i := 11) (oi := { dst := some 87, op := Op.move (Operand.tmp 7), type := 26, pos := "laws.go:430", after := #[{ on := 10, ground := Ground.guard }], guard := some (10, true) }) (v := ?_) rfl (by kernel_rfl) (by kernel_rfl) (by kernel_rfl) (fun _ _ _ h => h) (Or.inl ⟨by rfl, ?_⟩) (by assumption) ?_
                rotate_left
                · intro w hSw; (try dsimp only at hSw); go_simp <;> with_reducible rfl
                try simp only [Act.put, List.setIfInBounds_toArray, List.set_cons_zero, List.set_cons_succ]
                refine wpAnyH_take (i := 12) (oi := { dst := some 88, op := Op.move (Operand.tmp 8), type := 26, pos := "laws.go:430", after := #[{ on := 10, ground := Ground.guard }], guard := some (10, true) }) (v := ?_) rfl (by kernel_rfl) (by kernel_rfl) (by kernel_rfl) (fun _ _ _ h => h) (Or.inl ⟨by rfl, ?_⟩) (by assumption) ?_
                rotate_left
                · intro w hSw; (try dsimp only at hSw); go_simp <;> with_reducible rfl
                try simp only [Act.put, List.setIfInBounds_toArray, List.set_cons_zero, List.set_cons_succ]
                refine wpAnyH_ready (rs := [13]) (by kernel_rfl) (by simp) ?_
                refine AllReadyH.cons (o := { dst := some 89, op := Op.call { callee := Callee.value (Operand.func 15), args := #[Operand.tmp 87, Operand.tmp 88], argTypes := #[26, 26] }, type := 4, pos := "laws.go:430", after := #[{ on := 11, ground := Ground.data }, { on := 12, ground := Ground.data }, { on := 10, ground := Ground.chain }, { on := 10, ground := Ground.guard }], guard := some (10, true) }) rfl (fun K hK => ?_) AllReadyH.nil
                go_simp
                (first | (go_at_call 14; go_fit (unhide EA _ (unhide kS _ (by with_reducible assumption))); rintro r v1 ⟨rfl, hv1⟩; have hV1 := below_after hv1 (unhide kS _ (by with_reducible assumption)) (Nat.le_refl _)) | (go_at_call 15; go_fit (unhide EBC _ (unhide kS _ (by with_reducible assumption))); rintro r v2 ⟨rfl, hv2⟩; have hV2 := below_after hv2 (unhide kS _ (by with_reducible assumption)) (Nat.le_refl _)) | (go_at_call 16; go_fit (unhide ESD _ (unhide kS _ (by with_reducible assumption))); rintro r v3 ⟨vv, rfl, lv3, hv3⟩; obtain ⟨av, cv, e1⟩ := lv3.form; rw [← unhide hN] at e1; subst e1; replace lv3 := hide lv3; have hV3 := below_after hv3 (unhide kS _ (by with_reducible assumption)) (Nat.le_refl _); clear hv3) | (go_at_call 15; go_fit (unhide EL _ _ _ _ _ _ _ ((unhide lb1).next (unhide kS _ (by with_reducible assumption))) (unhide lv3)); rintro r v4 ⟨rfl, hv4⟩; have hV4 := below_after hv4 (unhide kS _ (by with_reducible assumption)) (Nat.le_refl _)) | (go_at_call 17; go_fit (unhide EP0 _); rintro r v5 ⟨rfl, hv5⟩; have hV5 := below_after hv5 (unhide kS _ (by with_reducible assumption)) (Nat.le_refl _)) | (go_at_call 17; go_fit (unhide EP9 _); rintro r v6 ⟨rfl, hv6⟩; have hV6 := below_after hv6 (unhide kS _ (by with_reducible assumption)) (Nat.le_refl _)))
                refine hK.out _ _ ?_ (fun hHeld => ?_)
                · (first | assumption | (refine unhide K0 _ ?_; assumption))
                clear hK K
                try simp only [Act.put, List.setIfInBounds_toArray, List.set_cons_zero, List.set_cons_succ]
                refine wpAnyH_take (i := 14) (oi := { dst := some 90, op := Op.pick (Operand.tmp 86) (Operand.tmp 89) (Operand.const (Value.bool false)), type := 4, pos := "laws.go:430", after := #[{ on := 10, ground := Ground.data }, { on := 13, ground := Ground.data }], guard := none }) (v := ?_) rfl (by kernel_rfl) (by kernel_rfl) (by kernel_rfl) (fun _ _ _ h => h) (Or.inl ⟨by rfl, ?_⟩) (by assumption) ?_
                rotate_left
                · intro w hSw; (try dsimp only at hSw); go_simp <;> with_reducible rfl
                try simp only [Act.put, List.setIfInBounds_toArray, List.set_cons_zero, List.set_cons_succ]
                refine wpAnyH_take (i := 15) (oi := { dst := some 91, op := Op.move (Operand.tmp 90), type := 4, pos := "laws.go:430", after := #[{ on := 14, ground := Ground.data }, { on := 13, ground := Ground.chain }], guard := none }) (v := ?_) rfl (by kernel_rfl) (by kernel_rfl) (by kernel_rfl) (fun _ _ _ h => h) (Or.inl ⟨by rfl, ?_⟩) (by assumption) ?_
                rotate_left
                · intro w hSw; (try dsimp only at hSw); go_simp <;> with_reducible rfl
                try simp only [Act.put, List.setIfInBounds_toArray, List.set_cons_zero, List.set_cons_succ]
                refine wpAnyH_take (i := 16) (oi := { dst := some 92, op := Op.move (Operand.tmp 7), type := 26, pos := "laws.go:430", after := #[{ on := 15, ground := Ground.guard }], guard := some (15, true) }) (v := ?_) rfl (by kernel_rfl) (by kernel_rfl) (by kernel_rfl) (fun _ _ _ h => h) (Or.inl ⟨by rfl, ?_⟩) (by assumption) ?_
                rotate_left
                · intro w hSw; (try dsimp only at hSw); go_simp <;> with_reducible rfl
                try simp only [Act.put, List.setIfInBounds_toArray, List.set_cons_zero, List.set_cons_succ]
                refine wpAnyH_take (i := 17) (oi := { dst := some 93, op := Op.move (Operand.tmp 3), type := 30, pos := "laws.go:430", after := #[{ on := 15, ground := Ground.guard }], guard := some (15, true) }) (v := ?_) rfl (by kernel_rfl) (by kernel_rfl) (by kernel_rfl) (fun _ _ _ h => h) (Or.inl ⟨by rfl, ?_⟩) (by assumption) ?_
                rotate_left
                · intro w hSw; (try dsimp only at hSw); go_simp <;> with_reducible rfl
                try simp only [Act.put, List.setIfInBounds_toArray, List.set_cons_zero, List.set_cons_succ]
                refine wpAnyH_take (i := 18) (oi := { dst := some 94, op := Op.move (Operand.tmp 6), type := 24, pos := "laws.go:430", after := #[{ on := 15, ground := Ground.guard }], guard := some (15, true) }) (v := ?_) rfl (by kernel_rfl) (by kernel_rfl) (by kernel_rfl) (fun _ _ _ h => h) (Or.inl ⟨by rfl, ?_⟩) (by assumption) ?_
                rotate_left
                · intro w hSw; (try dsimp only at hSw); go_simp <;> with_reducible rfl
                try simp only [Act.put, List.setIfInBounds_toArray, List.set_cons_zero, List.set_cons_succ]
                refine wpAnyH_ready (rs := [19]) (by kernel_rfl) (by simp) ?_
                refine AllReadyH.cons (o := { dst := some 95, op := Op.call { callee := Callee.value (Operand.func 16), args := #[Operand.tmp 93, Operand.tmp 94, Operand.const (Value.int IntKind.i64 5)], argTypes := #[30, 24, 3] }, type := 26, pos := "laws.go:430", after := #[{ on := 17, ground := Ground.data }, { on := 18, ground := Ground.data }, { on := 15, ground := Ground.chain }, { on := 15, ground := Ground.guard }], guard := some (15, true) }) rfl (fun K hK => ?_) AllReadyH.nil
                go_simp
                (first | (go_at_call 14; go_fit (unhide EA _ (unhide kS _ (by with_reducible assumption))); rintro r v1 ⟨rfl, hv1⟩; have hV1 := below_after hv1 (unhide kS _ (by with_reducible assumption)) (Nat.le_refl _)) | (go_at_call 15; go_fit (unhide EBC _ (unhide kS _ (by with_reducible assumption))); rintro r v2 ⟨rfl, hv2⟩; have hV2 := below_after hv2 (unhide kS _ (by with_reducible assumption)) (Nat.le_refl _)) | (go_at_call 16; go_fit (unhide ESD _ (unhide kS _ (by with_reducible assumption))); rintro r v3 ⟨vv, rfl, lv3, hv3⟩; obtain ⟨av, cv, e1⟩ := lv3.form; rw [← unhide hN] at e1; subst e1; replace lv3 := hide lv3; have hV3 := below_after hv3 (unhide kS _ (by with_reducible assumption)) (Nat.le_refl _); clear hv3) | (go_at_call 15; go_fit (unhide EL _ _ _ _ _ _ _ ((unhide lb1).next (unhide kS _ (by with_reducible assumption))) (unhide lv3)); rintro r v4 ⟨rfl, hv4⟩; have hV4 := below_after hv4 (unhide kS _ (by with_reducible assumption)) (Nat.le_refl _)) | (go_at_call 17; go_fit (unhide EP0 _); rintro r v5 ⟨rfl, hv5⟩; have hV5 := below_after hv5 (unhide kS _ (by with_reducible assumption)) (Nat.le_refl _)) | (go_at_call 17; go_fit (unhide EP9 _); rintro r v6 ⟨rfl, hv6⟩; have hV6 := below_after hv6 (unhide kS _ (by with_reducible assumption)) (Nat.le_refl _)))
                refine hK.out _ _ ?_ (fun hHeld => ?_)
                · (first | assumption | (refine unhide K0 _ ?_; assumption))
                clear hK K
                try simp only [Act.put, List.setIfInBounds_toArray, List.set_cons_zero, List.set_cons_succ]
                as_aux_lemma =>
                  refine wpAnyH_ready (rs := [20]) (by kernel_rfl) (by simp) ?_
                  refine AllReadyH.cons (o := { dst := some 96, op := Op.call { callee := Callee.value (Operand.func 15), args := #[Operand.tmp 92, Operand.tmp 95], argTypes := #[26, 26] }, type := 4, pos := "laws.go:430", after := #[{ on := 16, ground := Ground.data }, { on := 19, ground := Ground.data }, { on := 19, ground := Ground.chain }, { on := 15, ground := Ground.guard }], guard := some (15, true) }) rfl (fun K hK => ?_) AllReadyH.nil
                  go_simp
                  (first | (go_at_call 14; go_fit (unhide EA _ (unhide kS _ (by with_reducible assumption))); rintro r v1 ⟨rfl, hv1⟩; have hV1 := below_after hv1 (unhide kS _ (by with_reducible assumption)) (Nat.le_refl _)) | (go_at_call 15; go_fit (unhide EBC _ (unhide kS _ (by with_reducible assumption))); rintro r v2 ⟨rfl, hv2⟩; have hV2 := below_after hv2 (unhide kS _ (by with_reducible assumption)) (Nat.le_refl _)) | (go_at_call 16; go_fit (unhide ESD _ (unhide kS _ (by with_reducible assumption))); rintro r v3 ⟨vv, rfl, lv3, hv3⟩; obtain ⟨av, cv, e1⟩ := lv3.form; rw [← unhide hN] at e1; subst e1; replace lv3 := hide lv3; have hV3 := below_after hv3 (unhide kS _ (by with_reducible assumption)) (Nat.le_refl _); clear hv3) | (go_at_call 15; go_fit (unhide EL _ _ _ _ _ _ _ ((unhide lb1).next (unhide kS _ (by with_reducible assumption))) (unhide lv3)); rintro r v4 ⟨rfl, hv4⟩; have hV4 := below_after hv4 (unhide kS _ (by with_reducible assumption)) (Nat.le_refl _)) | (go_at_call 17; go_fit (unhide EP0 _); rintro r v5 ⟨rfl, hv5⟩; have hV5 := below_after hv5 (unhide kS _ (by with_reducible assumption)) (Nat.le_refl _)) | (go_at_call 17; go_fit (unhide EP9 _); rintro r v6 ⟨rfl, hv6⟩; have hV6 := below_after hv6 (unhide kS _ (by with_reducible assumption)) (Nat.le_refl _)))
                  refine hK.out _ _ ?_ (fun hHeld => ?_)
                  · (first | assumption | (refine unhide K0 _ ?_; assumption))
                  clear hK K
                  try simp only [Act.put, List.setIfInBounds_toArray, List.set_cons_zero, List.set_cons_succ]
                  refine wpAnyH_take (i := 21) (oi := { dst := some 97, op := Op.pick (Operand.tmp 91) (Operand.tmp 96) (Operand.const (Value.bool false)), type := 4, pos := "laws.go:430", after := #[{ on := 15, ground := Ground.data }, { on := 20, ground := Ground.data }], guard := none }) (v := ?_) rfl (by kernel_rfl) (by kernel_rfl) (by kernel_rfl) (fun _ _ _ h => h) (Or.inl ⟨by rfl, ?_⟩) (by assumption) ?_
                  rotate_left
                  · intro w hSw; (try dsimp only at hSw); go_simp <;> with_reducible rfl
                  try simp only [Act.put, List.setIfInBounds_toArray, List.set_cons_zero, List.set_cons_succ]
                  refine wpAnyH_take (i := 22) (oi := { dst := some 98, op := Op.move (Operand.tmp 97), type := 4, pos := "laws.go:430", after := #[{ on := 21, ground := Ground.data }, { on := 20, ground := Ground.chain }], guard := none }) (v := ?_) rfl (by kernel_rfl) (by kernel_rfl) (by kernel_rfl) (fun _ _ _ h => h) (Or.inl ⟨by rfl, ?_⟩) (by assumption) ?_
                  rotate_left
                  · intro w hSw; (try dsimp only at hSw); go_simp <;> with_reducible rfl
                  try simp only [Act.put, List.setIfInBounds_toArray, List.set_cons_zero, List.set_cons_succ]
                  refine wpAnyH_take (i := 23) (oi := { dst := some 99, op := Op.move (Operand.tmp 9), type := 3, pos := "laws.go:430", after := #[{ on := 22, ground := Ground.guard }], guard := some (22, true) }) (v := ?_) rfl (by kernel_rfl) (by kernel_rfl) (by kernel_rfl) (fun _ _ _ h => h) (Or.inl ⟨by rfl, ?_⟩) (by assumption) ?_
                  rotate_left
                  · intro w hSw; (try dsimp only at hSw); go_simp <;> with_reducible rfl
                  try simp only [Act.put, List.setIfInBounds_toArray, List.set_cons_zero, List.set_cons_succ]
                  refine wpAnyH_take (i := 24) (oi := { dst := some 100, op := Op.binOp BinOp.eql 3 (Operand.tmp 99) (Operand.const (Value.int IntKind.i64 0)) 3, type := 4, pos := "laws.go:430", after := #[{ on := 23, ground := Ground.data }, { on := 22, ground := Ground.guard }], guard := some (22, true) }) (v := ?_) rfl (by kernel_rfl) (by kernel_rfl) (by kernel_rfl) (fun _ _ _ h => h) (Or.inl ⟨by rfl, ?_⟩) (by assumption) ?_
                  rotate_left
                  · intro w hSw; (try dsimp only at hSw); go_simp <;> with_reducible rfl
                  try simp only [Act.put, List.setIfInBounds_toArray, List.set_cons_zero, List.set_cons_succ]
                  refine wpAnyH_take (i := 25) (oi := { dst := some 101, op := Op.move (Operand.tmp 100), type := 4, pos := "laws.go:430", after := #[{ on := 24, ground := Ground.data }, { on := 22, ground := Ground.chain }, { on := 22, ground := Ground.guard }], guard := some (22, true) }) (v := ?_) rfl (by kernel_rfl) (by kernel_rfl) (by kernel_rfl) (fun _ _ _ h => h) (Or.inl ⟨by rfl, ?_⟩) (by assumption) ?_
                  rotate_left
                  · intro w hSw; (try dsimp only at hSw); go_simp <;> with_reducible rfl
                  try simp only [Act.put, List.setIfInBounds_toArray, List.set_cons_zero, List.set_cons_succ]
                  refine wpAnyH_take (i := 26) (oi := { dst := some 102, op := Op.move (Operand.tmp 3), type := 30, pos := "laws.go:430", after := #[{ on := 25, ground := Ground.guard }], guard := some (25, false) }) (v := undef) rfl (by kernel_rfl) (by kernel_rfl) (by kernel_rfl) (fun _ _ _ h => h) (Or.inr ⟨by rfl, rfl⟩) (by assumption) ?_
                  try simp only [Act.put, List.setIfInBounds_toArray, List.set_cons_zero, List.set_cons_succ]
                  refine wpAnyH_take (i := 27) (oi := { dst := some 103, op := Op.indexAddr 30 (Operand.tmp 102) (Operand.const (Value.int IntKind.i64 0)), type := 0, pos := "laws.go:430", after := #[{ on := 26, ground := Ground.data }, { on := 25, ground := Ground.guard }], guard := some (25, false) }) (v := undef) rfl (by kernel_rfl) (by kernel_rfl) (by kernel_rfl) (fun _ _ _ h => h) (Or.inr ⟨by rfl, rfl⟩) (by assumption) ?_
                  try simp only [Act.put, List.setIfInBounds_toArray, List.set_cons_zero, List.set_cons_succ]
                  refine wpAnyH_take (i := 28) (oi := { dst := some 104, op := Op.load 29 (Operand.tmp 103), type := 29, pos := "laws.go:430", after := #[{ on := 27, ground := Ground.data }, { on := 25, ground := Ground.guard }], guard := some (25, false) }) (v := undef) rfl (by kernel_rfl) (by kernel_rfl) (by kernel_rfl) (fun _ _ _ h => h) (Or.inr ⟨by rfl, rfl⟩) (by assumption) ?_
                  try simp only [Act.put, List.setIfInBounds_toArray, List.set_cons_zero, List.set_cons_succ]
                  refine wpAnyH_take (i := 29) (oi := { dst := some 105, op := Op.move (Operand.tmp 3), type := 30, pos := "laws.go:430", after := #[{ on := 25, ground := Ground.guard }], guard := some (25, false) }) (v := undef) rfl (by kernel_rfl) (by kernel_rfl) (by kernel_rfl) (fun _ _ _ h => h) (Or.inr ⟨by rfl, rfl⟩) (by assumption) ?_
                  try simp only [Act.put, List.setIfInBounds_toArray, List.set_cons_zero, List.set_cons_succ]
                  refine wpAnyH_take (i := 30) (oi := { dst := some 106, op := Op.indexAddr 30 (Operand.tmp 105) (Operand.const (Value.int IntKind.i64 1)), type := 0, pos := "laws.go:430", after := #[{ on := 29, ground := Ground.data }, { on := 25, ground := Ground.guard }], guard := some (25, false) }) (v := undef) rfl (by kernel_rfl) (by kernel_rfl) (by kernel_rfl) (fun _ _ _ h => h) (Or.inr ⟨by rfl, rfl⟩) (by assumption) ?_
                  try simp only [Act.put, List.setIfInBounds_toArray, List.set_cons_zero, List.set_cons_succ]
                  refine wpAnyH_take (i := 31) (oi := { dst := some 107, op := Op.load 29 (Operand.tmp 106), type := 29, pos := "laws.go:430", after := #[{ on := 30, ground := Ground.data }, { on := 25, ground := Ground.guard }], guard := some (25, false) }) (v := undef) rfl (by kernel_rfl) (by kernel_rfl) (by kernel_rfl) (fun _ _ _ h => h) (Or.inr ⟨by rfl, rfl⟩) (by assumption) ?_
                  try simp only [Act.put, List.setIfInBounds_toArray, List.set_cons_zero, List.set_cons_succ]
                  refine wpAnyH_take (i := 32) (oi := { dst := some 108, op := Op.call { callee := Callee.value (Operand.func 17), args := #[Operand.tmp 104, Operand.tmp 107, Operand.const (Value.int IntKind.i64 0), Operand.const (Value.int IntKind.i64 9)], argTypes := #[29, 29, 3, 3] }, type := 29, pos := "laws.go:430", after := #[{ on := 28, ground := Ground.data }, { on := 31, ground := Ground.data }, { on := 25, ground := Ground.chain }, { on := 25, ground := Ground.guard }], guard := some (25, false) }) (v := undef) rfl (by kernel_rfl) (by kernel_rfl) (by kernel_rfl) (fun _ _ _ h => h) (Or.inr ⟨by rfl, rfl⟩) (by assumption) ?_
                  try simp only [Act.put, List.setIfInBounds_toArray, List.set_cons_zero, List.set_cons_succ]
                  refine wpAnyH_take (i := 33) (oi := { dst := some 109, op := Op.move (Operand.tmp 3), type := 30, pos := "laws.go:430", after := #[{ on := 25, ground := Ground.guard }], guard := some (25, false) }) (v := undef) rfl (by kernel_rfl) (by kernel_rfl) (by kernel_rfl) (fun _ _ _ h => h) (Or.inr ⟨by rfl, rfl⟩) (by assumption) ?_
                  try simp only [Act.put, List.setIfInBounds_toArray, List.set_cons_zero, List.set_cons_succ]
                  refine wpAnyH_take (i := 34) (oi := { dst := some 110, op := Op.indexAddr 30 (Operand.tmp 109) (Operand.const (Value.int IntKind.i64 0)), type := 0, pos := "laws.go:430", after := #[{ on := 33, ground := Ground.data }, { on := 25, ground := Ground.guard }], guard := some (25, false) }) (v := undef) rfl (by kernel_rfl) (by kernel_rfl) (by kernel_rfl) (fun _ _ _ h => h) (Or.inr ⟨by rfl, rfl⟩) (by assumption) ?_
                  try simp only [Act.put, List.setIfInBounds_toArray, List.set_cons_zero, List.set_cons_succ]
                  refine wpAnyH_take (i := 35) (oi := { dst := some 111, op := Op.load 29 (Operand.tmp 110), type := 29, pos := "laws.go:430", after := #[{ on := 34, ground := Ground.data }, { on := 25, ground := Ground.guard }], guard := some (25, false) }) (v := undef) rfl (by kernel_rfl) (by kernel_rfl) (by kernel_rfl) (fun _ _ _ h => h) (Or.inr ⟨by rfl, rfl⟩) (by assumption) ?_
                  try simp only [Act.put, List.setIfInBounds_toArray, List.set_cons_zero, List.set_cons_succ]
                  refine wpAnyH_take (i := 36) (oi := { dst := some 112, op := Op.binOp BinOp.eql 29 (Operand.tmp 108) (Operand.tmp 111) 29, type := 4, pos := "laws.go:430", after := #[{ on := 32, ground := Ground.data }, { on := 35, ground := Ground.data }, { on := 25, ground := Ground.guard }], guard := some (25, false) }) (v := undef) rfl (by kernel_rfl) (by kernel_rfl) (by kernel_rfl) (fun _ _ _ h => h) (Or.inr ⟨by rfl, rfl⟩) (by assumption) ?_
                  try simp only [Act.put, List.setIfInBounds_toArray, List.set_cons_zero, List.set_cons_succ]
                  refine wpAnyH_take (i := 37) (oi := { dst := some 113, op := Op.move (Operand.tmp 112), type := 4, pos := "laws.go:430", after := #[{ on := 36, ground := Ground.data }, { on := 32, ground := Ground.chain }, { on := 25, ground := Ground.guard }], guard := some (25, false) }) (v := undef) rfl (by kernel_rfl) (by kernel_rfl) (by kernel_rfl) (fun _ _ _ h => h) (Or.inr ⟨by rfl, rfl⟩) (by assumption) ?_
                  try simp only [Act.put, List.setIfInBounds_toArray, List.set_cons_zero, List.set_cons_succ]
                  refine wpAnyH_take (i := 38) (oi := { dst := some 114, op := Op.move (Operand.tmp 3), type := 30, pos := "laws.go:430", after := #[{ on := 37, ground := Ground.guard }], guard := some (37, true) }) (v := undef) rfl (by kernel_rfl) (by kernel_rfl) (by kernel_rfl) (fun _ _ _ h => h) (Or.inr ⟨by rfl, rfl⟩) (by assumption) ?_
                  try simp only [Act.put, List.setIfInBounds_toArray, List.set_cons_zero, List.set_cons_succ]
                  refine wpAnyH_take (i := 39) (oi := { dst := some 115, op := Op.indexAddr 30 (Operand.tmp 114) (Operand.const (Value.int IntKind.i64 0)), type := 0, pos := "laws.go:430", after := #[{ on := 38, ground := Ground.data }, { on := 37, ground := Ground.guard }], guard := some (37, true) }) (v := undef) rfl (by kernel_rfl) (by kernel_rfl) (by kernel_rfl) (fun _ _ _ h => h) (Or.inr ⟨by rfl, rfl⟩) (by assumption) ?_
                  try simp only [Act.put, List.setIfInBounds_toArray, List.set_cons_zero, List.set_cons_succ]
                  as_aux_lemma =>
                    refine wpAnyH_take (i := 40) (oi := { dst := some 116, op := Op.load 29 (Operand.tmp 115), type := 29, pos := "laws.go:430", after := #[{ on := 39, ground := Ground.data }, { on := 37, ground := Ground.guard }], guard := some (37, true) }) (v := undef) rfl (by kernel_rfl) (by kernel_rfl) (by kernel_rfl) (fun _ _ _ h => h) (Or.inr ⟨by rfl, rfl⟩) (by assumption) ?_
                    try simp only [Act.put, List.setIfInBounds_toArray, List.set_cons_zero, List.set_cons_succ]
                    refine wpAnyH_take (i := 41) (oi := { dst := some 117, op := Op.move (Operand.tmp 3), type := 30, pos := "laws.go:430", after := #[{ on := 37, ground := Ground.guard }], guard := some (37, true) }) (v := undef) rfl (by kernel_rfl) (by kernel_rfl) (by kernel_rfl) (fun _ _ _ h => h) (Or.inr ⟨by rfl, rfl⟩) (by assumption) ?_
                    try simp only [Act.put, List.setIfInBounds_toArray, List.set_cons_zero, List.set_cons_succ]
                    refine wpAnyH_take (i := 42) (oi := { dst := some 118, op := Op.indexAddr 30 (Operand.tmp 117) (Operand.const (Value.int IntKind.i64 1)), type := 0, pos := "laws.go:430", after := #[{ on := 41, ground := Ground.data }, { on := 37, ground := Ground.guard }], guard := some (37, true) }) (v := undef) rfl (by kernel_rfl) (by kernel_rfl) (by kernel_rfl) (fun _ _ _ h => h) (Or.inr ⟨by rfl, rfl⟩) (by assumption) ?_
                    try simp only [Act.put, List.setIfInBounds_toArray, List.set_cons_zero, List.set_cons_succ]
                    refine wpAnyH_take (i := 43) (oi := { dst := some 119, op := Op.load 29 (Operand.tmp 118), type := 29, pos := "laws.go:430", after := #[{ on := 42, ground := Ground.data }, { on := 37, ground := Ground.guard }], guard := some (37, true) }) (v := undef) rfl (by kernel_rfl) (by kernel_rfl) (by kernel_rfl) (fun _ _ _ h => h) (Or.inr ⟨by rfl, rfl⟩) (by assumption) ?_
                    try simp only [Act.put, List.setIfInBounds_toArray, List.set_cons_zero, List.set_cons_succ]
                    refine wpAnyH_take (i := 44) (oi := { dst := some 120, op := Op.call { callee := Callee.value (Operand.func 17), args := #[Operand.tmp 116, Operand.tmp 119, Operand.const (Value.int IntKind.i64 9), Operand.const (Value.int IntKind.i64 9)], argTypes := #[29, 29, 3, 3] }, type := 29, pos := "laws.go:430", after := #[{ on := 40, ground := Ground.data }, { on := 43, ground := Ground.data }, { on := 37, ground := Ground.chain }, { on := 37, ground := Ground.guard }], guard := some (37, true) }) (v := undef) rfl (by kernel_rfl) (by kernel_rfl) (by kernel_rfl) (fun _ _ _ h => h) (Or.inr ⟨by rfl, rfl⟩) (by assumption) ?_
                    try simp only [Act.put, List.setIfInBounds_toArray, List.set_cons_zero, List.set_cons_succ]
                    refine wpAnyH_take (i := 45) (oi := { dst := some 121, op := Op.move (Operand.tmp 3), type := 30, pos := "laws.go:430", after := #[{ on := 37, ground := Ground.guard }], guard := some (37, true) }) (v := undef) rfl (by kernel_rfl) (by kernel_rfl) (by kernel_rfl) (fun _ _ _ h => h) (Or.inr ⟨by rfl, rfl⟩) (by assumption) ?_
                    try simp only [Act.put, List.setIfInBounds_toArray, List.set_cons_zero, List.set_cons_succ]
                    refine wpAnyH_take (i := 46) (oi := { dst := some 122, op := Op.indexAddr 30 (Operand.tmp 121) (Operand.const (Value.int IntKind.i64 1)), type := 0, pos := "laws.go:430", after := #[{ on := 45, ground := Ground.data }, { on := 37, ground := Ground.guard }], guard := some (37, true) }) (v := undef) rfl (by kernel_rfl) (by kernel_rfl) (by kernel_rfl) (fun _ _ _ h => h) (Or.inr ⟨by rfl, rfl⟩) (by assumption) ?_
                    try simp only [Act.put, List.setIfInBounds_toArray, List.set_cons_zero, List.set_cons_succ]
                    refine wpAnyH_take (i := 47) (oi := { dst := some 123, op := Op.load 29 (Operand.tmp 122), type := 29, pos := "laws.go:430", after := #[{ on := 46, ground := Ground.data }, { on := 37, ground := Ground.guard }], guard := some (37, true) }) (v := undef) rfl (by kernel_rfl) (by kernel_rfl) (by kernel_rfl) (fun _ _ _ h => h) (Or.inr ⟨by rfl, rfl⟩) (by assumption) ?_
                    try simp only [Act.put, List.setIfInBounds_toArray, List.set_cons_zero, List.set_cons_succ]
                    refine wpAnyH_take (i := 48) (oi := { dst := some 124, op := Op.binOp BinOp.eql 29 (Operand.tmp 120) (Operand.tmp 123) 29, type := 4, pos := "laws.go:430", after := #[{ on := 44, ground := Ground.data }, { on := 47, ground := Ground.data }, { on := 37, ground := Ground.guard }], guard := some (37, true) }) (v := undef) rfl (by kernel_rfl) (by kernel_rfl) (by kernel_rfl) (fun _ _ _ h => h) (Or.inr ⟨by rfl, rfl⟩) (by assumption) ?_
                    try simp only [Act.put, List.setIfInBounds_toArray, List.set_cons_zero, List.set_cons_succ]
                    refine wpAnyH_take (i := 49) (oi := { dst := some 125, op := Op.pick (Operand.tmp 113) (Operand.tmp 124) (Operand.const (Value.bool false)), type := 4, pos := "laws.go:430", after := #[{ on := 37, ground := Ground.data }, { on := 48, ground := Ground.data }, { on := 25, ground := Ground.guard }], guard := some (25, false) }) (v := undef) rfl (by kernel_rfl) (by kernel_rfl) (by kernel_rfl) (fun _ _ _ h => h) (Or.inr ⟨by rfl, rfl⟩) (by assumption) ?_
                    try simp only [Act.put, List.setIfInBounds_toArray, List.set_cons_zero, List.set_cons_succ]
                    refine wpAnyH_take (i := 50) (oi := { dst := some 126, op := Op.pick (Operand.tmp 101) (Operand.const (Value.bool true)) (Operand.tmp 125), type := 4, pos := "laws.go:430", after := #[{ on := 25, ground := Ground.data }, { on := 49, ground := Ground.data }, { on := 22, ground := Ground.guard }], guard := some (22, true) }) (v := ?_) rfl (by kernel_rfl) (by kernel_rfl) (by kernel_rfl) (fun _ _ _ h => h) (Or.inl ⟨by rfl, ?_⟩) (by assumption) ?_
                    rotate_left
                    · intro w hSw; (try dsimp only at hSw); go_simp <;> with_reducible rfl
                    try simp only [Act.put, List.setIfInBounds_toArray, List.set_cons_zero, List.set_cons_succ]
                    refine wpAnyH_take (i := 51) (oi := { dst := some 127, op := Op.pick (Operand.tmp 98) (Operand.tmp 126) (Operand.const (Value.bool false)), type := 4, pos := "laws.go:430", after := #[{ on := 22, ground := Ground.data }, { on := 50, ground := Ground.data }], guard := none }) (v := ?_) rfl (by kernel_rfl) (by kernel_rfl) (by kernel_rfl) (fun _ _ _ h => h) (Or.inl ⟨by rfl, ?_⟩) (by assumption) ?_
                    rotate_left
                    · intro w hSw; (try dsimp only at hSw); go_simp <;> with_reducible rfl
                    try simp only [Act.put, List.setIfInBounds_toArray, List.set_cons_zero, List.set_cons_succ]
                    refine wpAnyH_take (i := 52) (oi := { dst := some 2, op := Op.assign (Operand.tmp 127), type := 4, pos := "laws.go:430", after := #[{ on := 51, ground := Ground.data }, { on := 44, ground := Ground.chain }, { on := 0, ground := Ground.phase }, { on := 1, ground := Ground.phase }, { on := 2, ground := Ground.phase }, { on := 3, ground := Ground.phase }, { on := 4, ground := Ground.phase }, { on := 5, ground := Ground.phase }, { on := 6, ground := Ground.phase }, { on := 7, ground := Ground.phase }, { on := 8, ground := Ground.phase }, { on := 9, ground := Ground.phase }, { on := 10, ground := Ground.phase }, { on := 11, ground := Ground.phase }, { on := 12, ground := Ground.phase }, { on := 13, ground := Ground.phase }, { on := 14, ground := Ground.phase }, { on := 15, ground := Ground.phase }, { on := 16, ground := Ground.phase }, { on := 17, ground := Ground.phase }, { on := 18, ground := Ground.phase }, { on := 19, ground := Ground.phase }, { on := 20, ground := Ground.phase }, { on := 21, ground := Ground.phase }, { on := 22, ground := Ground.phase }, { on := 23, ground := Ground.phase }, { on := 24, ground := Ground.phase }, { on := 25, ground := Ground.phase }, { on := 26, ground := Ground.phase }, { on := 27, ground := Ground.phase }, { on := 28, ground := Ground.phase }, { on := 29, ground := Ground.phase }, { on := 30, ground := Ground.phase }, { on := 31, ground := Ground.phase }, { on := 32, ground := Ground.phase }, { on := 33, ground := Ground.phase }, { on := 34, ground := Ground.phase }, { on := 35, ground := Ground.phase }, { on := 36, ground := Ground.phase }, { on := 37, ground := Ground.phase }, { on := 38, ground := Ground.phase }, { on := 39, ground := Ground.phase }, { on := 40, ground := Ground.phase }, { on := 41, ground := Ground.phase }, { on := 42, ground := Ground.phase }, { on := 43, ground := Ground.phase }, { on := 44, ground := Ground.phase }, { on := 45, ground := Ground.phase }, { on := 46, ground := Ground.phase }, { on := 47, ground := Ground.phase }, { on := 48, ground := Ground.phase }, { on := 49, ground := Ground.phase }, { on := 50, ground := Ground.phase }, { on := 51, ground := Ground.phase }], guard := none }) (v := ?_) rfl (by kernel_rfl) (by kernel_rfl) (by kernel_rfl) (fun _ _ _ h => h) (Or.inl ⟨by rfl, ?_⟩) (by assumption) ?_
                    rotate_left
                    · intro w hSw; (try dsimp only at hSw); go_simp <;> with_reducible rfl
                    try simp only [Act.put, List.setIfInBounds_toArray, List.set_cons_zero, List.set_cons_succ]
                    refine wpAnyH_done (by kernel_rfl) ?_ _
                    have h9 := unhide kS _ (by assumption)
                    go_wp2_with fail
                    go_ret
                    exact ⟨rfl, below_two (unhide HB) h9⟩
              · have hSz : (S == 0) = false := beq_eq_false_iff_ne.2 hS
                go_upto_region 19 with fail
                have K00 := hide (unhide K0 _ (Below.refl _ _).drew)
                refine wp_region_held_drew (S := fun u => u.cell? ⟨ga, 0, none⟩ = some (.slice xx n cx) ∧ u.cell? ⟨s0, o0, none⟩ = some (.int .i64 xa) ∧ u.cell? ⟨s0, o0 + 1, none⟩ = some (.int .i64 ya) ∧ u.cell? ⟨s0, o0 + 2, none⟩ = some (.int .i64 xb) ∧ u.cell? ⟨s0, o0 + 3, none⟩ = some (.int .i64 yb) ∧ Below wr.heap.size wr u) (by kernel_rfl) ?_ (fun hHeld => ?_)
                · exact unhide K00
                refine wpAnyH_take (i := 0) (oi := { dst := some 76, op := Op.move (Operand.tmp 5), type := 26, pos := "laws.go:430", after := #[], guard := none }) (v := ?_) rfl (by kernel_rfl) (by kernel_rfl) (by kernel_rfl) (fun _ _ _ h => h) (Or.inl ⟨by rfl, ?_⟩) (by assumption) ?_
                rotate_left
                · intro w hSw; (try dsimp only at hSw); go_simp <;> with_reducible rfl
                try simp only [Act.put, List.setIfInBounds_toArray, List.set_cons_zero, List.set_cons_succ]
                refine wpAnyH_take (i := 1) (oi := { dst := some 77, op := Op.call { callee := Callee.builtin Builtin.len, args := #[Operand.tmp 76], argTypes := #[26] }, type := 3, pos := "laws.go:430", after := #[{ on := 0, ground := Ground.data }], guard := none }) (v := ?_) rfl (by kernel_rfl) (by kernel_rfl) (by kernel_rfl) (fun _ _ _ h => h) (Or.inl ⟨by rfl, ?_⟩) (by assumption) ?_
                rotate_left
                · intro w hSw; (try dsimp only at hSw); go_simp <;> with_reducible rfl
                try simp only [Act.put, List.setIfInBounds_toArray, List.set_cons_zero, List.set_cons_succ]
                refine wpAnyH_take (i := 2) (oi := { dst := some 78, op := Op.binOp BinOp.eql 3 (Operand.tmp 77) (Operand.const (Value.int IntKind.i64 1)) 3, type := 4, pos := "laws.go:430", after := #[{ on := 1, ground := Ground.data }], guard := none }) (v := ?_) rfl (by kernel_rfl) (by kernel_rfl) (by kernel_rfl) (fun _ _ _ h => h) (Or.inl ⟨by rfl, ?_⟩) (by assumption) ?_
                rotate_left
                · intro w hSw; (try dsimp only at hSw); go_simp <;> with_reducible rfl
                try simp only [Act.put, List.setIfInBounds_toArray, List.set_cons_zero, List.set_cons_succ]
                refine wpAnyH_take (i := 3) (oi := { dst := some 79, op := Op.move (Operand.tmp 78), type := 4, pos := "laws.go:430", after := #[{ on := 2, ground := Ground.data }], guard := none }) (v := ?_) rfl (by kernel_rfl) (by kernel_rfl) (by kernel_rfl) (fun _ _ _ h => h) (Or.inl ⟨by rfl, ?_⟩) (by assumption) ?_
                rotate_left
                · intro w hSw; (try dsimp only at hSw); go_simp <;> with_reducible rfl
                try simp only [Act.put, List.setIfInBounds_toArray, List.set_cons_zero, List.set_cons_succ]
                refine wpAnyH_take (i := 4) (oi := { dst := some 80, op := Op.move (Operand.tmp 5), type := 26, pos := "laws.go:430", after := #[{ on := 3, ground := Ground.guard }], guard := some (3, true) }) (v := ?_) rfl (by kernel_rfl) (by kernel_rfl) (by kernel_rfl) (fun _ _ _ h => h) (Or.inl ⟨by rfl, ?_⟩) (by assumption) ?_
                rotate_left
                · intro w hSw; (try dsimp only at hSw); go_simp <;> with_reducible rfl
                try simp only [Act.put, List.setIfInBounds_toArray, List.set_cons_zero, List.set_cons_succ]
                refine wpAnyH_take (i := 5) (oi := { dst := some 81, op := Op.indexAddr 26 (Operand.tmp 80) (Operand.const (Value.int IntKind.i64 0)), type := 0, pos := "laws.go:430", after := #[{ on := 4, ground := Ground.data }, { on := 3, ground := Ground.guard }], guard := some (3, true) }) (v := ?_) rfl (by kernel_rfl) (by kernel_rfl) (by kernel_rfl) (fun _ _ _ h => h) (Or.inl ⟨by rfl, ?_⟩) (by assumption) ?_
                rotate_left
                · intro w hSw; (try dsimp only at hSw); go_simp <;> with_reducible rfl
                try simp only [Act.put, List.setIfInBounds_toArray, List.set_cons_zero, List.set_cons_succ]
                refine wpAnyH_take (i := 6) (oi := { dst := some 82, op := Op.load 30 (Operand.tmp 81), type := 30, pos := "laws.go:430", after := #[{ on := 5, ground := Ground.data }, { on := 3, ground := Ground.guard }], guard := some (3, true) }) (v := ?_) rfl (by kernel_rfl) (by kernel_rfl) (by kernel_rfl) (fun _ _ _ h => h) (Or.inl ⟨by rfl, ?_⟩) (by assumption) ?_
                rotate_left
                · intro w hSw; (try dsimp only at hSw); go_simp <;> with_reducible rfl
                try simp only [Act.put, List.setIfInBounds_toArray, List.set_cons_zero, List.set_cons_succ]
                refine wpAnyH_take (i := 7) (oi := { dst := some 83, op := Op.move (Operand.tmp 3), type := 30, pos := "laws.go:430", after := #[{ on := 3, ground := Ground.guard }], guard := some (3, true) }) (v := ?_) rfl (by kernel_rfl) (by kernel_rfl) (by kernel_rfl) (fun _ _ _ h => h) (Or.inl ⟨by rfl, ?_⟩) (by assumption) ?_
                rotate_left
                · intro w hSw; (try dsimp only at hSw); go_simp <;> with_reducible rfl
                try simp only [Act.put, List.setIfInBounds_toArray, List.set_cons_zero, List.set_cons_succ]
                refine wpAnyH_ready (rs := [8]) (by kernel_rfl) (by simp) ?_
                refine AllReadyH.cons (o := { dst := some 84, op := Op.call { callee := Callee.value (Operand.func 14), args := #[Operand.tmp 82, Operand.tmp 83], argTypes := #[30, 30] }, type := 4, pos := "laws.go:430", after := #[{ on := 6, ground := Ground.data }, { on := 7, ground := Ground.data }, { on := 3, ground := Ground.chain }, { on := 3, ground := Ground.guard }], guard := some (3, true) }) rfl (fun K hK => ?_) AllReadyH.nil
                go_simp
                (first | (go_at_call 14; go_fit (unhide EA _ (unhide kS _ (by with_reducible assumption))); rintro r v1 ⟨rfl, hv1⟩; have hV1 := below_after hv1 (unhide kS _ (by with_reducible assumption)) (Nat.le_refl _)) | (go_at_call 15; go_fit (unhide EBC _ (unhide kS _ (by with_reducible assumption))); rintro r v2 ⟨rfl, hv2⟩; have hV2 := below_after hv2 (unhide kS _ (by with_reducible assumption)) (Nat.le_refl _)) | (go_at_call 16; go_fit (unhide ESD _ (unhide kS _ (by with_reducible assumption))); rintro r v3 ⟨vv, rfl, lv3, hv3⟩; obtain ⟨av, cv, e1⟩ := lv3.form; rw [← unhide hN] at e1; subst e1; replace lv3 := hide lv3; have hV3 := below_after hv3 (unhide kS _ (by with_reducible assumption)) (Nat.le_refl _); clear hv3) | (go_at_call 15; go_fit (unhide EL _ _ _ _ _ _ _ ((unhide lb1).next (unhide kS _ (by with_reducible assumption))) (unhide lv3)); rintro r v4 ⟨rfl, hv4⟩; have hV4 := below_after hv4 (unhide kS _ (by with_reducible assumption)) (Nat.le_refl _)) | (go_at_call 17; go_fit (unhide EP0 _); rintro r v5 ⟨rfl, hv5⟩; have hV5 := below_after hv5 (unhide kS _ (by with_reducible assumption)) (Nat.le_refl _)) | (go_at_call 17; go_fit (unhide EP9 _); rintro r v6 ⟨rfl, hv6⟩; have hV6 := below_after hv6 (unhide kS _ (by with_reducible assumption)) (Nat.le_refl _)))
                refine hK.out _ _ ?_ (fun hHeld => ?_)
                · (first | assumption | (refine unhide K0 _ ?_; assumption))
                clear hK K
                try simp only [Act.put, List.setIfInBounds_toArray, List.set_cons_zero, List.set_cons_succ]
                refine wpAnyH_take (i := 9) (oi := { dst := some 85, op := Op.pick (Operand.tmp 79) (Operand.tmp 84) (Operand.const (Value.bool false)), type := 4, pos := "laws.go:430", after := #[{ on := 3, ground := Ground.data }, { on := 8, ground := Ground.data }], guard := none }) (v := ?_) rfl (by kernel_rfl) (by kernel_rfl) (by kernel_rfl) (fun _ _ _ h => h) (Or.inl ⟨by rfl, ?_⟩) (by assumption) ?_
                rotate_left
                · intro w hSw; (try dsimp only at hSw); go_simp <;> with_reducible rfl
                try simp only [Act.put, List.setIfInBounds_toArray, List.set_cons_zero, List.set_cons_succ]
                refine wpAnyH_take (i := 10) (oi := { dst := some 86, op := Op.move (Operand.tmp 85), type := 4, pos := "laws.go:430", after := #[{ on := 9, ground := Ground.data }, { on := 8, ground := Ground.chain }], guard := none }) (v := ?_) rfl (by kernel_rfl) (by kernel_rfl) (by kernel_rfl) (fun _ _ _ h => h) (Or.inl ⟨by rfl, ?_⟩) (by assumption) ?_
                rotate_left
                · intro w hSw; (try dsimp only at hSw); go_simp <;> with_reducible rfl
                try simp only [Act.put, List.setIfInBounds_toArray, List.set_cons_zero, List.set_cons_succ]
                refine wpAnyH_take (i := 11) (oi := { dst := some 87, op := Op.move (Operand.tmp 7), type := 26, pos := "laws.go:430", after := #[{ on := 10, ground := Ground.guard }], guard := some (10, true) }) (v := ?_) rfl (by kernel_rfl) (by kernel_rfl) (by kernel_rfl) (fun _ _ _ h => h) (Or.inl ⟨by rfl, ?_⟩) (by assumption) ?_
                rotate_left
                · intro w hSw; (try dsimp only at hSw); go_simp <;> with_reducible rfl
                try simp only [Act.put, List.setIfInBounds_toArray, List.set_cons_zero, List.set_cons_succ]
                refine wpAnyH_take (i := 12) (oi := { dst := some 88, op := Op.move (Operand.tmp 8), type := 26, pos := "laws.go:430", after := #[{ on := 10, ground := Ground.guard }], guard := some (10, true) }) (v := ?_) rfl (by kernel_rfl) (by kernel_rfl) (by kernel_rfl) (fun _ _ _ h => h) (Or.inl ⟨by rfl, ?_⟩) (by assumption) ?_
                rotate_left
                · intro w hSw; (try dsimp only at hSw); go_simp <;> with_reducible rfl
                try simp only [Act.put, List.setIfInBounds_toArray, List.set_cons_zero, List.set_cons_succ]
                refine wpAnyH_ready (rs := [13]) (by kernel_rfl) (by simp) ?_
                refine AllReadyH.cons (o := { dst := some 89, op := Op.call { callee := Callee.value (Operand.func 15), args := #[Operand.tmp 87, Operand.tmp 88], argTypes := #[26, 26] }, type := 4, pos := "laws.go:430", after := #[{ on := 11, ground := Ground.data }, { on := 12, ground := Ground.data }, { on := 10, ground := Ground.chain }, { on := 10, ground := Ground.guard }], guard := some (10, true) }) rfl (fun K hK => ?_) AllReadyH.nil
                go_simp
                (first | (go_at_call 14; go_fit (unhide EA _ (unhide kS _ (by with_reducible assumption))); rintro r v1 ⟨rfl, hv1⟩; have hV1 := below_after hv1 (unhide kS _ (by with_reducible assumption)) (Nat.le_refl _)) | (go_at_call 15; go_fit (unhide EBC _ (unhide kS _ (by with_reducible assumption))); rintro r v2 ⟨rfl, hv2⟩; have hV2 := below_after hv2 (unhide kS _ (by with_reducible assumption)) (Nat.le_refl _)) | (go_at_call 16; go_fit (unhide ESD _ (unhide kS _ (by with_reducible assumption))); rintro r v3 ⟨vv, rfl, lv3, hv3⟩; obtain ⟨av, cv, e1⟩ := lv3.form; rw [← unhide hN] at e1; subst e1; replace lv3 := hide lv3; have hV3 := below_after hv3 (unhide kS _ (by with_reducible assumption)) (Nat.le_refl _); clear hv3) | (go_at_call 15; go_fit (unhide EL _ _ _ _ _ _ _ ((unhide lb1).next (unhide kS _ (by with_reducible assumption))) (unhide lv3)); rintro r v4 ⟨rfl, hv4⟩; have hV4 := below_after hv4 (unhide kS _ (by with_reducible assumption)) (Nat.le_refl _)) | (go_at_call 17; go_fit (unhide EP0 _); rintro r v5 ⟨rfl, hv5⟩; have hV5 := below_after hv5 (unhide kS _ (by with_reducible assumption)) (Nat.le_refl _)) | (go_at_call 17; go_fit (unhide EP9 _); rintro r v6 ⟨rfl, hv6⟩; have hV6 := below_after hv6 (unhide kS _ (by with_reducible assumption)) (Nat.le_refl _)))
                refine hK.out _ _ ?_ (fun hHeld => ?_)
                · (first | assumption | (refine unhide K0 _ ?_; assumption))
                clear hK K
                try simp only [Act.put, List.setIfInBounds_toArray, List.set_cons_zero, List.set_cons_succ]
                refine wpAnyH_take (i := 14) (oi := { dst := some 90, op := Op.pick (Operand.tmp 86) (Operand.tmp 89) (Operand.const (Value.bool false)), type := 4, pos := "laws.go:430", after := #[{ on := 10, ground := Ground.data }, { on := 13, ground := Ground.data }], guard := none }) (v := ?_) rfl (by kernel_rfl) (by kernel_rfl) (by kernel_rfl) (fun _ _ _ h => h) (Or.inl ⟨by rfl, ?_⟩) (by assumption) ?_
                rotate_left
                · intro w hSw; (try dsimp only at hSw); go_simp <;> with_reducible rfl
                try simp only [Act.put, List.setIfInBounds_toArray, List.set_cons_zero, List.set_cons_succ]
                refine wpAnyH_take (i := 15) (oi := { dst := some 91, op := Op.move (Operand.tmp 90), type := 4, pos := "laws.go:430", after := #[{ on := 14, ground := Ground.data }, { on := 13, ground := Ground.chain }], guard := none }) (v := ?_) rfl (by kernel_rfl) (by kernel_rfl) (by kernel_rfl) (fun _ _ _ h => h) (Or.inl ⟨by rfl, ?_⟩) (by assumption) ?_
                rotate_left
                · intro w hSw; (try dsimp only at hSw); go_simp <;> with_reducible rfl
                try simp only [Act.put, List.setIfInBounds_toArray, List.set_cons_zero, List.set_cons_succ]
                refine wpAnyH_take (i := 16) (oi := { dst := some 92, op := Op.move (Operand.tmp 7), type := 26, pos := "laws.go:430", after := #[{ on := 15, ground := Ground.guard }], guard := some (15, true) }) (v := ?_) rfl (by kernel_rfl) (by kernel_rfl) (by kernel_rfl) (fun _ _ _ h => h) (Or.inl ⟨by rfl, ?_⟩) (by assumption) ?_
                rotate_left
                · intro w hSw; (try dsimp only at hSw); go_simp <;> with_reducible rfl
                try simp only [Act.put, List.setIfInBounds_toArray, List.set_cons_zero, List.set_cons_succ]
                refine wpAnyH_take (i := 17) (oi := { dst := some 93, op := Op.move (Operand.tmp 3), type := 30, pos := "laws.go:430", after := #[{ on := 15, ground := Ground.guard }], guard := some (15, true) }) (v := ?_) rfl (by kernel_rfl) (by kernel_rfl) (by kernel_rfl) (fun _ _ _ h => h) (Or.inl ⟨by rfl, ?_⟩) (by assumption) ?_
                rotate_left
                · intro w hSw; (try dsimp only at hSw); go_simp <;> with_reducible rfl
                try simp only [Act.put, List.setIfInBounds_toArray, List.set_cons_zero, List.set_cons_succ]
                refine wpAnyH_take (i := 18) (oi := { dst := some 94, op := Op.move (Operand.tmp 6), type := 24, pos := "laws.go:430", after := #[{ on := 15, ground := Ground.guard }], guard := some (15, true) }) (v := ?_) rfl (by kernel_rfl) (by kernel_rfl) (by kernel_rfl) (fun _ _ _ h => h) (Or.inl ⟨by rfl, ?_⟩) (by assumption) ?_
                rotate_left
                · intro w hSw; (try dsimp only at hSw); go_simp <;> with_reducible rfl
                try simp only [Act.put, List.setIfInBounds_toArray, List.set_cons_zero, List.set_cons_succ]
                refine wpAnyH_ready (rs := [19]) (by kernel_rfl) (by simp) ?_
                refine AllReadyH.cons (o := { dst := some 95, op := Op.call { callee := Callee.value (Operand.func 16), args := #[Operand.tmp 93, Operand.tmp 94, Operand.const (Value.int IntKind.i64 5)], argTypes := #[30, 24, 3] }, type := 26, pos := "laws.go:430", after := #[{ on := 17, ground := Ground.data }, { on := 18, ground := Ground.data }, { on := 15, ground := Ground.chain }, { on := 15, ground := Ground.guard }], guard := some (15, true) }) rfl (fun K hK => ?_) AllReadyH.nil
                go_simp
                (first | (go_at_call 14; go_fit (unhide EA _ (unhide kS _ (by with_reducible assumption))); rintro r v1 ⟨rfl, hv1⟩; have hV1 := below_after hv1 (unhide kS _ (by with_reducible assumption)) (Nat.le_refl _)) | (go_at_call 15; go_fit (unhide EBC _ (unhide kS _ (by with_reducible assumption))); rintro r v2 ⟨rfl, hv2⟩; have hV2 := below_after hv2 (unhide kS _ (by with_reducible assumption)) (Nat.le_refl _)) | (go_at_call 16; go_fit (unhide ESD _ (unhide kS _ (by with_reducible assumption))); rintro r v3 ⟨vv, rfl, lv3, hv3⟩; obtain ⟨av, cv, e1⟩ := lv3.form; rw [← unhide hN] at e1; subst e1; replace lv3 := hide lv3; have hV3 := below_after hv3 (unhide kS _ (by with_reducible assumption)) (Nat.le_refl _); clear hv3) | (go_at_call 15; go_fit (unhide EL _ _ _ _ _ _ _ ((unhide lb1).next (unhide kS _ (by with_reducible assumption))) (unhide lv3)); rintro r v4 ⟨rfl, hv4⟩; have hV4 := below_after hv4 (unhide kS _ (by with_reducible assumption)) (Nat.le_refl _)) | (go_at_call 17; go_fit (unhide EP0 _); rintro r v5 ⟨rfl, hv5⟩; have hV5 := below_after hv5 (unhide kS _ (by with_reducible assumption)) (Nat.le_refl _)) | (go_at_call 17; go_fit (unhide EP9 _); rintro r v6 ⟨rfl, hv6⟩; have hV6 := below_after hv6 (unhide kS _ (by with_reducible assumption)) (Nat.le_refl _)))
                refine hK.out _ _ ?_ (fun hHeld => ?_)
                · (first | assumption | (refine unhide K0 _ ?_; assumption))
                clear hK K
                try simp only [Act.put, List.setIfInBounds_toArray, List.set_cons_zero, List.set_cons_succ]
                as_aux_lemma =>
                  refine wpAnyH_ready (rs := [20]) (by kernel_rfl) (by simp) ?_
                  refine AllReadyH.cons (o := { dst := some 96, op := Op.call { callee := Callee.value (Operand.func 15), args := #[Operand.tmp 92, Operand.tmp 95], argTypes := #[26, 26] }, type := 4, pos := "laws.go:430", after := #[{ on := 16, ground := Ground.data }, { on := 19, ground := Ground.data }, { on := 19, ground := Ground.chain }, { on := 15, ground := Ground.guard }], guard := some (15, true) }) rfl (fun K hK => ?_) AllReadyH.nil
                  go_simp
                  (first | (go_at_call 14; go_fit (unhide EA _ (unhide kS _ (by with_reducible assumption))); rintro r v1 ⟨rfl, hv1⟩; have hV1 := below_after hv1 (unhide kS _ (by with_reducible assumption)) (Nat.le_refl _)) | (go_at_call 15; go_fit (unhide EBC _ (unhide kS _ (by with_reducible assumption))); rintro r v2 ⟨rfl, hv2⟩; have hV2 := below_after hv2 (unhide kS _ (by with_reducible assumption)) (Nat.le_refl _)) | (go_at_call 16; go_fit (unhide ESD _ (unhide kS _ (by with_reducible assumption))); rintro r v3 ⟨vv, rfl, lv3, hv3⟩; obtain ⟨av, cv, e1⟩ := lv3.form; rw [← unhide hN] at e1; subst e1; replace lv3 := hide lv3; have hV3 := below_after hv3 (unhide kS _ (by with_reducible assumption)) (Nat.le_refl _); clear hv3) | (go_at_call 15; go_fit (unhide EL _ _ _ _ _ _ _ ((unhide lb1).next (unhide kS _ (by with_reducible assumption))) (unhide lv3)); rintro r v4 ⟨rfl, hv4⟩; have hV4 := below_after hv4 (unhide kS _ (by with_reducible assumption)) (Nat.le_refl _)) | (go_at_call 17; go_fit (unhide EP0 _); rintro r v5 ⟨rfl, hv5⟩; have hV5 := below_after hv5 (unhide kS _ (by with_reducible assumption)) (Nat.le_refl _)) | (go_at_call 17; go_fit (unhide EP9 _); rintro r v6 ⟨rfl, hv6⟩; have hV6 := below_after hv6 (unhide kS _ (by with_reducible assumption)) (Nat.le_refl _)))
                  refine hK.out _ _ ?_ (fun hHeld => ?_)
                  · (first | assumption | (refine unhide K0 _ ?_; assumption))
                  clear hK K
                  try simp only [Act.put, List.setIfInBounds_toArray, List.set_cons_zero, List.set_cons_succ]
                  refine wpAnyH_take (i := 21) (oi := { dst := some 97, op := Op.pick (Operand.tmp 91) (Operand.tmp 96) (Operand.const (Value.bool false)), type := 4, pos := "laws.go:430", after := #[{ on := 15, ground := Ground.data }, { on := 20, ground := Ground.data }], guard := none }) (v := ?_) rfl (by kernel_rfl) (by kernel_rfl) (by kernel_rfl) (fun _ _ _ h => h) (Or.inl ⟨by rfl, ?_⟩) (by assumption) ?_
                  rotate_left
                  · intro w hSw; (try dsimp only at hSw); go_simp <;> with_reducible rfl
                  try simp only [Act.put, List.setIfInBounds_toArray, List.set_cons_zero, List.set_cons_succ]
                  refine wpAnyH_take (i := 22) (oi := { dst := some 98, op := Op.move (Operand.tmp 97), type := 4, pos := "laws.go:430", after := #[{ on := 21, ground := Ground.data }, { on := 20, ground := Ground.chain }], guard := none }) (v := ?_) rfl (by kernel_rfl) (by kernel_rfl) (by kernel_rfl) (fun _ _ _ h => h) (Or.inl ⟨by rfl, ?_⟩) (by assumption) ?_
                  rotate_left
                  · intro w hSw; (try dsimp only at hSw); go_simp <;> with_reducible rfl
                  try simp only [Act.put, List.setIfInBounds_toArray, List.set_cons_zero, List.set_cons_succ]
                  refine wpAnyH_take (i := 23) (oi := { dst := some 99, op := Op.move (Operand.tmp 9), type := 3, pos := "laws.go:430", after := #[{ on := 22, ground := Ground.guard }], guard := some (22, true) }) (v := ?_) rfl (by kernel_rfl) (by kernel_rfl) (by kernel_rfl) (fun _ _ _ h => h) (Or.inl ⟨by rfl, ?_⟩) (by assumption) ?_
                  rotate_left
                  · intro w hSw; (try dsimp only at hSw); go_simp <;> with_reducible rfl
                  try simp only [Act.put, List.setIfInBounds_toArray, List.set_cons_zero, List.set_cons_succ]
                  refine wpAnyH_take (i := 24) (oi := { dst := some 100, op := Op.binOp BinOp.eql 3 (Operand.tmp 99) (Operand.const (Value.int IntKind.i64 0)) 3, type := 4, pos := "laws.go:430", after := #[{ on := 23, ground := Ground.data }, { on := 22, ground := Ground.guard }], guard := some (22, true) }) (v := ?_) rfl (by kernel_rfl) (by kernel_rfl) (by kernel_rfl) (fun _ _ _ h => h) (Or.inl ⟨by rfl, ?_⟩) (by assumption) ?_
                  rotate_left
                  · intro w hSw; (try dsimp only at hSw); go_simp <;> with_reducible rfl
                  try simp only [Act.put, List.setIfInBounds_toArray, List.set_cons_zero, List.set_cons_succ]
                  refine wpAnyH_take (i := 25) (oi := { dst := some 101, op := Op.move (Operand.tmp 100), type := 4, pos := "laws.go:430", after := #[{ on := 24, ground := Ground.data }, { on := 22, ground := Ground.chain }, { on := 22, ground := Ground.guard }], guard := some (22, true) }) (v := ?_) rfl (by kernel_rfl) (by kernel_rfl) (by kernel_rfl) (fun _ _ _ h => h) (Or.inl ⟨by rfl, ?_⟩) (by assumption) ?_
                  rotate_left
                  · intro w hSw; (try dsimp only at hSw); go_simp <;> with_reducible rfl
                  try simp only [Act.put, List.setIfInBounds_toArray, List.set_cons_zero, List.set_cons_succ]
                  refine wpAnyH_take (i := 26) (oi := { dst := some 102, op := Op.move (Operand.tmp 3), type := 30, pos := "laws.go:430", after := #[{ on := 25, ground := Ground.guard }], guard := some (25, false) }) (v := ?_) rfl (by kernel_rfl) (by kernel_rfl) (by kernel_rfl) (fun _ _ _ h => h) (Or.inl ⟨by rfl, ?_⟩) (by assumption) ?_
                  rotate_left
                  · intro w hSw; (try dsimp only at hSw); go_simp <;> with_reducible rfl
                  try simp only [Act.put, List.setIfInBounds_toArray, List.set_cons_zero, List.set_cons_succ]
                  refine wpAnyH_take (i := 27) (oi := { dst := some 103, op := Op.indexAddr 30 (Operand.tmp 102) (Operand.const (Value.int IntKind.i64 0)), type := 0, pos := "laws.go:430", after := #[{ on := 26, ground := Ground.data }, { on := 25, ground := Ground.guard }], guard := some (25, false) }) (v := ?_) rfl (by kernel_rfl) (by kernel_rfl) (by kernel_rfl) (fun _ _ _ h => h) (Or.inl ⟨by rfl, ?_⟩) (by assumption) ?_
                  rotate_left
                  · intro w hSw; (try dsimp only at hSw); go_simp <;> with_reducible rfl
                  try simp only [Act.put, List.setIfInBounds_toArray, List.set_cons_zero, List.set_cons_succ]
                  refine wpAnyH_take (i := 28) (oi := { dst := some 104, op := Op.load 29 (Operand.tmp 103), type := 29, pos := "laws.go:430", after := #[{ on := 27, ground := Ground.data }, { on := 25, ground := Ground.guard }], guard := some (25, false) }) (v := ?_) rfl (by kernel_rfl) (by kernel_rfl) (by kernel_rfl) (fun _ _ _ h => h) (Or.inl ⟨by rfl, ?_⟩) (by assumption) ?_
                  rotate_left
                  · intro w hSw; (try dsimp only at hSw); go_simp <;> with_reducible rfl
                  try simp only [Act.put, List.setIfInBounds_toArray, List.set_cons_zero, List.set_cons_succ]
                  refine wpAnyH_take (i := 29) (oi := { dst := some 105, op := Op.move (Operand.tmp 3), type := 30, pos := "laws.go:430", after := #[{ on := 25, ground := Ground.guard }], guard := some (25, false) }) (v := ?_) rfl (by kernel_rfl) (by kernel_rfl) (by kernel_rfl) (fun _ _ _ h => h) (Or.inl ⟨by rfl, ?_⟩) (by assumption) ?_
                  rotate_left
                  · intro w hSw; (try dsimp only at hSw); go_simp <;> with_reducible rfl
                  try simp only [Act.put, List.setIfInBounds_toArray, List.set_cons_zero, List.set_cons_succ]
                  refine wpAnyH_take (i := 30) (oi := { dst := some 106, op := Op.indexAddr 30 (Operand.tmp 105) (Operand.const (Value.int IntKind.i64 1)), type := 0, pos := "laws.go:430", after := #[{ on := 29, ground := Ground.data }, { on := 25, ground := Ground.guard }], guard := some (25, false) }) (v := ?_) rfl (by kernel_rfl) (by kernel_rfl) (by kernel_rfl) (fun _ _ _ h => h) (Or.inl ⟨by rfl, ?_⟩) (by assumption) ?_
                  rotate_left
                  · intro w hSw; (try dsimp only at hSw); go_simp <;> with_reducible rfl
                  try simp only [Act.put, List.setIfInBounds_toArray, List.set_cons_zero, List.set_cons_succ]
                  refine wpAnyH_take (i := 31) (oi := { dst := some 107, op := Op.load 29 (Operand.tmp 106), type := 29, pos := "laws.go:430", after := #[{ on := 30, ground := Ground.data }, { on := 25, ground := Ground.guard }], guard := some (25, false) }) (v := ?_) rfl (by kernel_rfl) (by kernel_rfl) (by kernel_rfl) (fun _ _ _ h => h) (Or.inl ⟨by rfl, ?_⟩) (by assumption) ?_
                  rotate_left
                  · intro w hSw; (try dsimp only at hSw); go_simp <;> with_reducible rfl
                  try simp only [Act.put, List.setIfInBounds_toArray, List.set_cons_zero, List.set_cons_succ]
                  refine wpAnyH_take (i := 33) (oi := { dst := some 109, op := Op.move (Operand.tmp 3), type := 30, pos := "laws.go:430", after := #[{ on := 25, ground := Ground.guard }], guard := some (25, false) }) (v := ?_) rfl (by kernel_rfl) (by kernel_rfl) (by kernel_rfl) (fun _ _ _ h => h) (Or.inl ⟨by rfl, ?_⟩) (by assumption) ?_
                  rotate_left
                  · intro w hSw; (try dsimp only at hSw); go_simp <;> with_reducible rfl
                  try simp only [Act.put, List.setIfInBounds_toArray, List.set_cons_zero, List.set_cons_succ]
                  refine wpAnyH_take (i := 34) (oi := { dst := some 110, op := Op.indexAddr 30 (Operand.tmp 109) (Operand.const (Value.int IntKind.i64 0)), type := 0, pos := "laws.go:430", after := #[{ on := 33, ground := Ground.data }, { on := 25, ground := Ground.guard }], guard := some (25, false) }) (v := ?_) rfl (by kernel_rfl) (by kernel_rfl) (by kernel_rfl) (fun _ _ _ h => h) (Or.inl ⟨by rfl, ?_⟩) (by assumption) ?_
                  rotate_left
                  · intro w hSw; (try dsimp only at hSw); go_simp <;> with_reducible rfl
                  try simp only [Act.put, List.setIfInBounds_toArray, List.set_cons_zero, List.set_cons_succ]
                  refine wpAnyH_take (i := 35) (oi := { dst := some 111, op := Op.load 29 (Operand.tmp 110), type := 29, pos := "laws.go:430", after := #[{ on := 34, ground := Ground.data }, { on := 25, ground := Ground.guard }], guard := some (25, false) }) (v := ?_) rfl (by kernel_rfl) (by kernel_rfl) (by kernel_rfl) (fun _ _ _ h => h) (Or.inl ⟨by rfl, ?_⟩) (by assumption) ?_
                  rotate_left
                  · intro w hSw; (try dsimp only at hSw); go_simp <;> with_reducible rfl
                  try simp only [Act.put, List.setIfInBounds_toArray, List.set_cons_zero, List.set_cons_succ]
                  refine wpAnyH_ready (rs := [32]) (by kernel_rfl) (by simp) ?_
                  refine AllReadyH.cons (o := { dst := some 108, op := Op.call { callee := Callee.value (Operand.func 17), args := #[Operand.tmp 104, Operand.tmp 107, Operand.const (Value.int IntKind.i64 0), Operand.const (Value.int IntKind.i64 9)], argTypes := #[29, 29, 3, 3] }, type := 29, pos := "laws.go:430", after := #[{ on := 28, ground := Ground.data }, { on := 31, ground := Ground.data }, { on := 25, ground := Ground.chain }, { on := 25, ground := Ground.guard }], guard := some (25, false) }) rfl (fun K hK => ?_) AllReadyH.nil
                  go_simp
                  (first | (go_at_call 14; go_fit (unhide EA _ (unhide kS _ (by with_reducible assumption))); rintro r v1 ⟨rfl, hv1⟩; have hV1 := below_after hv1 (unhide kS _ (by with_reducible assumption)) (Nat.le_refl _)) | (go_at_call 15; go_fit (unhide EBC _ (unhide kS _ (by with_reducible assumption))); rintro r v2 ⟨rfl, hv2⟩; have hV2 := below_after hv2 (unhide kS _ (by with_reducible assumption)) (Nat.le_refl _)) | (go_at_call 16; go_fit (unhide ESD _ (unhide kS _ (by with_reducible assumption))); rintro r v3 ⟨vv, rfl, lv3, hv3⟩; obtain ⟨av, cv, e1⟩ := lv3.form; rw [← unhide hN] at e1; subst e1; replace lv3 := hide lv3; have hV3 := below_after hv3 (unhide kS _ (by with_reducible assumption)) (Nat.le_refl _); clear hv3) | (go_at_call 15; go_fit (unhide EL _ _ _ _ _ _ _ ((unhide lb1).next (unhide kS _ (by with_reducible assumption))) (unhide lv3)); rintro r v4 ⟨rfl, hv4⟩; have hV4 := below_after hv4 (unhide kS _ (by with_reducible assumption)) (Nat.le_refl _)) | (go_at_call 17; go_fit (unhide EP0 _); rintro r v5 ⟨rfl, hv5⟩; have hV5 := below_after hv5 (unhide kS _ (by with_reducible assumption)) (Nat.le_refl _)) | (go_at_call 17; go_fit (unhide EP9 _); rintro r v6 ⟨rfl, hv6⟩; have hV6 := below_after hv6 (unhide kS _ (by with_reducible assumption)) (Nat.le_refl _)))
                  refine hK.out _ _ ?_ (fun hHeld => ?_)
                  · (first | assumption | (refine unhide K0 _ ?_; assumption))
                  clear hK K
                  try simp only [Act.put, List.setIfInBounds_toArray, List.set_cons_zero, List.set_cons_succ]
                  refine wpAnyH_take (i := 36) (oi := { dst := some 112, op := Op.binOp BinOp.eql 29 (Operand.tmp 108) (Operand.tmp 111) 29, type := 4, pos := "laws.go:430", after := #[{ on := 32, ground := Ground.data }, { on := 35, ground := Ground.data }, { on := 25, ground := Ground.guard }], guard := some (25, false) }) (v := ?_) rfl (by kernel_rfl) (by kernel_rfl) (by kernel_rfl) (fun _ _ _ h => h) (Or.inl ⟨by rfl, ?_⟩) (by assumption) ?_
                  rotate_left
                  · intro w hSw; (try dsimp only at hSw); go_simp <;> with_reducible rfl
                  try simp only [Act.put, List.setIfInBounds_toArray, List.set_cons_zero, List.set_cons_succ]
                  refine wpAnyH_take (i := 37) (oi := { dst := some 113, op := Op.move (Operand.tmp 112), type := 4, pos := "laws.go:430", after := #[{ on := 36, ground := Ground.data }, { on := 32, ground := Ground.chain }, { on := 25, ground := Ground.guard }], guard := some (25, false) }) (v := ?_) rfl (by kernel_rfl) (by kernel_rfl) (by kernel_rfl) (fun _ _ _ h => h) (Or.inl ⟨by rfl, ?_⟩) (by assumption) ?_
                  rotate_left
                  · intro w hSw; (try dsimp only at hSw); go_simp <;> with_reducible rfl
                  try simp only [Act.put, List.setIfInBounds_toArray, List.set_cons_zero, List.set_cons_succ]
                  refine wpAnyH_take (i := 38) (oi := { dst := some 114, op := Op.move (Operand.tmp 3), type := 30, pos := "laws.go:430", after := #[{ on := 37, ground := Ground.guard }], guard := some (37, true) }) (v := ?_) rfl (by kernel_rfl) (by kernel_rfl) (by kernel_rfl) (fun _ _ _ h => h) (Or.inl ⟨by rfl, ?_⟩) (by assumption) ?_
                  rotate_left
                  · intro w hSw; (try dsimp only at hSw); go_simp <;> with_reducible rfl
                  try simp only [Act.put, List.setIfInBounds_toArray, List.set_cons_zero, List.set_cons_succ]
                  refine wpAnyH_take (i := 39) (oi := { dst := some 115, op := Op.indexAddr 30 (Operand.tmp 114) (Operand.const (Value.int IntKind.i64 0)), type := 0, pos := "laws.go:430", after := #[{ on := 38, ground := Ground.data }, { on := 37, ground := Ground.guard }], guard := some (37, true) }) (v := ?_) rfl (by kernel_rfl) (by kernel_rfl) (by kernel_rfl) (fun _ _ _ h => h) (Or.inl ⟨by rfl, ?_⟩) (by assumption) ?_
                  rotate_left
                  · intro w hSw; (try dsimp only at hSw); go_simp <;> with_reducible rfl
                  try simp only [Act.put, List.setIfInBounds_toArray, List.set_cons_zero, List.set_cons_succ]
                  as_aux_lemma =>
                    refine wpAnyH_take (i := 40) (oi := { dst := some 116, op := Op.load 29 (Operand.tmp 115), type := 29, pos := "laws.go:430", after := #[{ on := 39, ground := Ground.data }, { on := 37, ground := Ground.guard }], guard := some (37, true) }) (v := ?_) rfl (by kernel_rfl) (by kernel_rfl) (by kernel_rfl) (fun _ _ _ h => h) (Or.inl ⟨by rfl, ?_⟩) (by assumption) ?_
                    rotate_left
                    · intro w hSw; (try dsimp only at hSw); go_simp <;> with_reducible rfl
                    try simp only [Act.put, List.setIfInBounds_toArray, List.set_cons_zero, List.set_cons_succ]
                    refine wpAnyH_take (i := 41) (oi := { dst := some 117, op := Op.move (Operand.tmp 3), type := 30, pos := "laws.go:430", after := #[{ on := 37, ground := Ground.guard }], guard := some (37, true) }) (v := ?_) rfl (by kernel_rfl) (by kernel_rfl) (by kernel_rfl) (fun _ _ _ h => h) (Or.inl ⟨by rfl, ?_⟩) (by assumption) ?_
                    rotate_left
                    · intro w hSw; (try dsimp only at hSw); go_simp <;> with_reducible rfl
                    try simp only [Act.put, List.setIfInBounds_toArray, List.set_cons_zero, List.set_cons_succ]
                    refine wpAnyH_take (i := 42) (oi := { dst := some 118, op := Op.indexAddr 30 (Operand.tmp 117) (Operand.const (Value.int IntKind.i64 1)), type := 0, pos := "laws.go:430", after := #[{ on := 41, ground := Ground.data }, { on := 37, ground := Ground.guard }], guard := some (37, true) }) (v := ?_) rfl (by kernel_rfl) (by kernel_rfl) (by kernel_rfl) (fun _ _ _ h => h) (Or.inl ⟨by rfl, ?_⟩) (by assumption) ?_
                    rotate_left
                    · intro w hSw; (try dsimp only at hSw); go_simp <;> with_reducible rfl
                    try simp only [Act.put, List.setIfInBounds_toArray, List.set_cons_zero, List.set_cons_succ]
                    refine wpAnyH_take (i := 43) (oi := { dst := some 119, op := Op.load 29 (Operand.tmp 118), type := 29, pos := "laws.go:430", after := #[{ on := 42, ground := Ground.data }, { on := 37, ground := Ground.guard }], guard := some (37, true) }) (v := ?_) rfl (by kernel_rfl) (by kernel_rfl) (by kernel_rfl) (fun _ _ _ h => h) (Or.inl ⟨by rfl, ?_⟩) (by assumption) ?_
                    rotate_left
                    · intro w hSw; (try dsimp only at hSw); go_simp <;> with_reducible rfl
                    try simp only [Act.put, List.setIfInBounds_toArray, List.set_cons_zero, List.set_cons_succ]
                    refine wpAnyH_take (i := 45) (oi := { dst := some 121, op := Op.move (Operand.tmp 3), type := 30, pos := "laws.go:430", after := #[{ on := 37, ground := Ground.guard }], guard := some (37, true) }) (v := ?_) rfl (by kernel_rfl) (by kernel_rfl) (by kernel_rfl) (fun _ _ _ h => h) (Or.inl ⟨by rfl, ?_⟩) (by assumption) ?_
                    rotate_left
                    · intro w hSw; (try dsimp only at hSw); go_simp <;> with_reducible rfl
                    try simp only [Act.put, List.setIfInBounds_toArray, List.set_cons_zero, List.set_cons_succ]
                    refine wpAnyH_take (i := 46) (oi := { dst := some 122, op := Op.indexAddr 30 (Operand.tmp 121) (Operand.const (Value.int IntKind.i64 1)), type := 0, pos := "laws.go:430", after := #[{ on := 45, ground := Ground.data }, { on := 37, ground := Ground.guard }], guard := some (37, true) }) (v := ?_) rfl (by kernel_rfl) (by kernel_rfl) (by kernel_rfl) (fun _ _ _ h => h) (Or.inl ⟨by rfl, ?_⟩) (by assumption) ?_
                    rotate_left
                    · intro w hSw; (try dsimp only at hSw); go_simp <;> with_reducible rfl
                    try simp only [Act.put, List.setIfInBounds_toArray, List.set_cons_zero, List.set_cons_succ]
                    refine wpAnyH_take (i := 47) (oi := { dst := some 123, op := Op.load 29 (Operand.tmp 122), type := 29, pos := "laws.go:430", after := #[{ on := 46, ground := Ground.data }, { on := 37, ground := Ground.guard }], guard := some (37, true) }) (v := ?_) rfl (by kernel_rfl) (by kernel_rfl) (by kernel_rfl) (fun _ _ _ h => h) (Or.inl ⟨by rfl, ?_⟩) (by assumption) ?_
                    rotate_left
                    · intro w hSw; (try dsimp only at hSw); go_simp <;> with_reducible rfl
                    try simp only [Act.put, List.setIfInBounds_toArray, List.set_cons_zero, List.set_cons_succ]
                    refine wpAnyH_ready (rs := [44]) (by kernel_rfl) (by simp) ?_
                    refine AllReadyH.cons (o := { dst := some 120, op := Op.call { callee := Callee.value (Operand.func 17), args := #[Operand.tmp 116, Operand.tmp 119, Operand.const (Value.int IntKind.i64 9), Operand.const (Value.int IntKind.i64 9)], argTypes := #[29, 29, 3, 3] }, type := 29, pos := "laws.go:430", after := #[{ on := 40, ground := Ground.data }, { on := 43, ground := Ground.data }, { on := 37, ground := Ground.chain }, { on := 37, ground := Ground.guard }], guard := some (37, true) }) rfl (fun K hK => ?_) AllReadyH.nil
                    go_simp
                    (first | (go_at_call 14; go_fit (unhide EA _ (unhide kS _ (by with_reducible assumption))); rintro r v1 ⟨rfl, hv1⟩; have hV1 := below_after hv1 (unhide kS _ (by with_reducible assumption)) (Nat.le_refl _)) | (go_at_call 15; go_fit (unhide EBC _ (unhide kS _ (by with_reducible assumption))); rintro r v2 ⟨rfl, hv2⟩; have hV2 := below_after hv2 (unhide kS _ (by with_reducible assumption)) (Nat.le_refl _)) | (go_at_call 16; go_fit (unhide ESD _ (unhide kS _ (by with_reducible assumption))); rintro r v3 ⟨vv, rfl, lv3, hv3⟩; obtain ⟨av, cv, e1⟩ := lv3.form; rw [← unhide hN] at e1; subst e1; replace lv3 := hide lv3; have hV3 := below_after hv3 (unhide kS _ (by with_reducible assumption)) (Nat.le_refl _); clear hv3) | (go_at_call 15; go_fit (unhide EL _ _ _ _ _ _ _ ((unhide lb1).next (unhide kS _ (by with_reducible assumption))) (unhide lv3)); rintro r v4 ⟨rfl, hv4⟩; have hV4 := below_after hv4 (unhide kS _ (by with_reducible assumption)) (Nat.le_refl _)) | (go_at_call 17; go_fit (unhide EP0 _); rintro r v5 ⟨rfl, hv5⟩; have hV5 := below_after hv5 (unhide kS _ (by with_reducible assumption)) (Nat.le_refl _)) | (go_at_call 17; go_fit (unhide EP9 _); rintro r v6 ⟨rfl, hv6⟩; have hV6 := below_after hv6 (unhide kS _ (by with_reducible assumption)) (Nat.le_refl _)))
                    refine hK.out _ _ ?_ (fun hHeld => ?_)
                    · (first | assumption | (refine unhide K0 _ ?_; assumption))
                    clear hK K
                    try simp only [Act.put, List.setIfInBounds_toArray, List.set_cons_zero, List.set_cons_succ]
                    refine wpAnyH_take (i := 48) (oi := { dst := some 124, op := Op.binOp BinOp.eql 29 (Operand.tmp 120) (Operand.tmp 123) 29, type := 4, pos := "laws.go:430", after := #[{ on := 44, ground := Ground.data }, { on := 47, ground := Ground.data }, { on := 37, ground := Ground.guard }], guard := some (37, true) }) (v := ?_) rfl (by kernel_rfl) (by kernel_rfl) (by kernel_rfl) (fun _ _ _ h => h) (Or.inl ⟨by rfl, ?_⟩) (by assumption) ?_
                    rotate_left
                    · intro w hSw; (try dsimp only at hSw); go_simp <;> with_reducible rfl
                    try simp only [Act.put, List.setIfInBounds_toArray, List.set_cons_zero, List.set_cons_succ]
                    refine wpAnyH_take (i := 49) (oi := { dst := some 125, op := Op.pick (Operand.tmp 113) (Operand.tmp 124) (Operand.const (Value.bool false)), type := 4, pos := "laws.go:430", after := #[{ on := 37, ground := Ground.data }, { on := 48, ground := Ground.data }, { on := 25, ground := Ground.guard }], guard := some (25, false) }) (v := ?_) rfl (by kernel_rfl) (by kernel_rfl) (by kernel_rfl) (fun _ _ _ h => h) (Or.inl ⟨by rfl, ?_⟩) (by assumption) ?_
                    rotate_left
                    · intro w hSw; (try dsimp only at hSw); go_simp <;> with_reducible rfl
                    try simp only [Act.put, List.setIfInBounds_toArray, List.set_cons_zero, List.set_cons_succ]
                    refine wpAnyH_take (i := 50) (oi := { dst := some 126, op := Op.pick (Operand.tmp 101) (Operand.const (Value.bool true)) (Operand.tmp 125), type := 4, pos := "laws.go:430", after := #[{ on := 25, ground := Ground.data }, { on := 49, ground := Ground.data }, { on := 22, ground := Ground.guard }], guard := some (22, true) }) (v := ?_) rfl (by kernel_rfl) (by kernel_rfl) (by kernel_rfl) (fun _ _ _ h => h) (Or.inl ⟨by rfl, ?_⟩) (by assumption) ?_
                    rotate_left
                    · intro w hSw; (try dsimp only at hSw); go_simp <;> with_reducible rfl
                    try simp only [Act.put, List.setIfInBounds_toArray, List.set_cons_zero, List.set_cons_succ]
                    refine wpAnyH_take (i := 51) (oi := { dst := some 127, op := Op.pick (Operand.tmp 98) (Operand.tmp 126) (Operand.const (Value.bool false)), type := 4, pos := "laws.go:430", after := #[{ on := 22, ground := Ground.data }, { on := 50, ground := Ground.data }], guard := none }) (v := ?_) rfl (by kernel_rfl) (by kernel_rfl) (by kernel_rfl) (fun _ _ _ h => h) (Or.inl ⟨by rfl, ?_⟩) (by assumption) ?_
                    rotate_left
                    · intro w hSw; (try dsimp only at hSw); go_simp <;> with_reducible rfl
                    try simp only [Act.put, List.setIfInBounds_toArray, List.set_cons_zero, List.set_cons_succ]
                    refine wpAnyH_take (i := 52) (oi := { dst := some 2, op := Op.assign (Operand.tmp 127), type := 4, pos := "laws.go:430", after := #[{ on := 51, ground := Ground.data }, { on := 44, ground := Ground.chain }, { on := 0, ground := Ground.phase }, { on := 1, ground := Ground.phase }, { on := 2, ground := Ground.phase }, { on := 3, ground := Ground.phase }, { on := 4, ground := Ground.phase }, { on := 5, ground := Ground.phase }, { on := 6, ground := Ground.phase }, { on := 7, ground := Ground.phase }, { on := 8, ground := Ground.phase }, { on := 9, ground := Ground.phase }, { on := 10, ground := Ground.phase }, { on := 11, ground := Ground.phase }, { on := 12, ground := Ground.phase }, { on := 13, ground := Ground.phase }, { on := 14, ground := Ground.phase }, { on := 15, ground := Ground.phase }, { on := 16, ground := Ground.phase }, { on := 17, ground := Ground.phase }, { on := 18, ground := Ground.phase }, { on := 19, ground := Ground.phase }, { on := 20, ground := Ground.phase }, { on := 21, ground := Ground.phase }, { on := 22, ground := Ground.phase }, { on := 23, ground := Ground.phase }, { on := 24, ground := Ground.phase }, { on := 25, ground := Ground.phase }, { on := 26, ground := Ground.phase }, { on := 27, ground := Ground.phase }, { on := 28, ground := Ground.phase }, { on := 29, ground := Ground.phase }, { on := 30, ground := Ground.phase }, { on := 31, ground := Ground.phase }, { on := 32, ground := Ground.phase }, { on := 33, ground := Ground.phase }, { on := 34, ground := Ground.phase }, { on := 35, ground := Ground.phase }, { on := 36, ground := Ground.phase }, { on := 37, ground := Ground.phase }, { on := 38, ground := Ground.phase }, { on := 39, ground := Ground.phase }, { on := 40, ground := Ground.phase }, { on := 41, ground := Ground.phase }, { on := 42, ground := Ground.phase }, { on := 43, ground := Ground.phase }, { on := 44, ground := Ground.phase }, { on := 45, ground := Ground.phase }, { on := 46, ground := Ground.phase }, { on := 47, ground := Ground.phase }, { on := 48, ground := Ground.phase }, { on := 49, ground := Ground.phase }, { on := 50, ground := Ground.phase }, { on := 51, ground := Ground.phase }], guard := none }) (v := ?_) rfl (by kernel_rfl) (by kernel_rfl) (by kernel_rfl) (fun _ _ _ h => h) (Or.inl ⟨by rfl, ?_⟩) (by assumption) ?_
                    rotate_left
                    · intro w hSw; (try dsimp only at hSw); go_simp <;> with_reducible rfl
                    try simp only [Act.put, List.setIfInBounds_toArray, List.set_cons_zero, List.set_cons_succ]
                    refine wpAnyH_done (by kernel_rfl) ?_ _
                    have h9 := unhide kS _ (by assumption)
                    go_wp2_with fail
                    go_ret
                    exact ⟨rfl, below_two (unhide HB) h9⟩
  · go_enter Try.func4, Try.ntmps4
    go_wp2_with (go_at_call 8; go_must (refine (big_yes a0 len0 cap0 hl _).mono ?_); rintro e w1 ⟨rfl, rfl⟩)
    go_ret
    exact ⟨rfl, Below.refl _ _⟩
end Go.Proofs.Ythkcfgnnpcamiaa
