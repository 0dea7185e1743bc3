/-
  The law on windings, from the program's contracts.
-/
import Derived.Test.YticgjigjlclefaaWindQ
import Derived.Test.YticgjigjlclefaaWindS
import Derived.Test.YticgjigjlclefaaQuot
import Derived.Test.YticgjigjlclefaaDrawPts
import Derived.Test.YticgjigjlclefaaDrawP
import Derived.Test.YticgjigjlclefaaKeepA
import Derived.Deep.RegionHeld3
import Derived.Deep.DeepCutAuto
import Derived.Deep.DeepFit
namespace Go.Proofs.Yticgjigjlclefaa
open Go.RowKit
set_option linter.unusedVariables false

theorem covers_two (n : Nat) (pf qf : Nat → Pt) (even : Bool) (p : Pt) : coversB 2 (fun _ => n) (fun i => if i = 0 then pf else qf) even p = if even = true then decide ((windP n pf p + windP n qf p) % 2 ≠ 0) else decide (windP n pf p + windP n qf p ≠ 0) := by
  simp [coversB, coverN]
theorem largs_two {u : World} {b n c d : Nat} {x y : Option Addr} {pf qf : Nat → Pt} {t : TypeId} {m : Nat × Nat} (h : u.heap[b]? = some (.cells #[.slice x n c, .slice y n d] t m)) (h0 : ∀ i, i < n → PtArg u x i (pf i)) (h1 : ∀ i, i < n → PtArg u y i (qf i)) :
    ∀ i, i < 2 → LArg u (some ⟨b, 0, none⟩) i n ((fun i => if i = 0 then pf else qf) i) := by
  intro i hi
  rcases (show i = 0 ∨ i = 1 by omega) with rfl | rfl
  · exact ⟨b, 0, x, c, rfl, by simp [World.cell?, h], h0⟩
  · exact ⟨b, 0, y, d, rfl, by simp [World.cell?, h], h1⟩

set_option maxHeartbeats 16000000 in
set_option maxRecDepth 100000 in
theorem fnWinds_of (EWI : ∀ (pf : Nat → Pt) (la : Option Addr) (n lc : Nat) (hn : n ≤ 1048576) (x y : Int) (w : World) (P : ∀ i, i < n → PtArg w la i (pf i)), Calls Try.prog 20 #[.slice la n lc, .agg #[.int .i64 x, .int .i64 y]] w fun e w' => e = .returned (.int .i64 (windP n pf (x, y))) ∧ Below w.heap.size w w')
    (ECI : ∀ (N : Nat) (ln : Nat → Nat) (pf : Nat → Nat → Pt) (hN : N ≤ 1048576) (hl : ∀ i, i < N → ln i ≤ 1048576) (la : Option Addr) (lc : Nat) (even : Bool) (x y : Int) (w : World) (L : ∀ i, i < N → LArg w la i (ln i) (pf i)), Calls Try.prog 16 #[.slice la N lc, .bool even, .agg #[.int .i64 x, .int .i64 y]] w fun e w' => e = .returned (.bool (coversB N ln pf even (x, y))) ∧ Below w.heap.size w w')
    (ENI : ∀ (b : Int) (w : World), Calls Try.prog 22 #[.int .i64 b] w fun e w' => e = .returned (.int .i64 (countI b)) ∧ Below w.heap.size w w')
    (a0 : Option Addr) (len0 cap0 : Nat) (z0 : List Int) (w : World) (w0 : IsRow .u8 w a0 len0 cap0 z0) :
    Calls Try.prog 4 #[.slice a0 len0 cap0] w fun e w' => e = .returned (.bool true) ∧ Below w.heap.size w w' := by
  obtain ⟨i0, hi, hz0, hz1, hz2⟩ := info_parts infoPoint
  replace EWI := hide EWI
  replace ECI := hide ECI
  replace ENI := hide ENI
  by_cases hl : len0 ≤ 1048576
  · have HI := hide (InB.of_row w0)
    clear w0
    go_enter Try.func4, Try.ntmps4
    go_wp2_with fail
    refine (big_no a0 len0 cap0 hl _).mono ?_
    rintro r w1 ⟨rfl, rfl⟩
    go_wp2_with fail
    refine (drawPoints_any a0 len0 cap0 _ hl (unhide HI)).mono ?_
    rintro r w2 ⟨v, l, hl4, hl8, hsm, rfl, hown, hb2⟩
    obtain ⟨n, hn⟩ : ∃ n, n = l.length := ⟨_, rfl⟩
    rw [← hn] at hl4 hl8
    obtain ⟨la, lc, e1⟩ := own_form hown
    rw [← hn] at e1 hown
    subst e1
    have HP := hide (fun (u : World) (hu : Below w2.heap.size w2 u) i (hi : i < n) => (own_pxa hown (by rw [hn]; exact px_list l) i hi).next hu)
    generalize listP l = pf at HP
    have HB := hide hb2
    replace HI := hide ((unhide HI).next hb2)
    clear hown hb2 hsm hn
    go_wp2_with fail
    refine (drawPlaces_any a0 len0 cap0 _ hl (unhide HI)).mono ?_
    rintro r w3 ⟨vp, p, hp12, hpb, rfl, hop, hb3⟩
    obtain ⟨pp, pc, rfl, _, _, _, hpp⟩ := row_form hop
    obtain ⟨gp, rfl, hgp1, hgp2⟩ := hpp (by omega)
    obtain ⟨x0, hx0, c0⟩ := place_at hop hpb 0 (by omega)
    obtain ⟨x1, hx1, c1⟩ := place_at hop hpb 1 (by omega)
    obtain ⟨x2, hx2, c2⟩ := place_at hop hpb 2 (by omega)
    rw [hp12]
    have B23 := hide hb3
    replace HB := hide (below_two (unhide HB) hb3)
    clear hop hb3 hpb HI hgp1 hgp2
    have q0 : IntKind.i64.wrap (x0 % 3600 - 300) = x0 % 3600 - 300 := IntWalk.i64_in _ (by omega)
    have q1 : IntKind.i64.wrap (x1 % 3600 - 300) = x1 % 3600 - 300 := IntWalk.i64_in _ (by omega)
    have n0 := fun o => kn o c0
    have n1 := fun o => kn o c1
    go_wp2_with fail
    go_region
    have RA := hide (show (w3.alloc (.cells #[.int .i64 (x0 % 3600 - 300), .int .i64 (x1 % 3600 - 300)] 27)).drew.heap[w3.heap.size]? = some (.cells #[.int .i64 (x0 % 3600 - 300), .int .i64 (x1 % 3600 - 300)] 27 (0, 0)) from al1_0 _ _)
    have hbn : Below w3.heap.size w3 (w3.alloc (.cells #[.int .i64 (x0 % 3600 - 300), .int .i64 (x1 % 3600 - 300)] 27)).drew := (al1_below _ _).drew
    generalize x0 % 3600 - 300 = X at RA hbn ⊢
    generalize x1 % 3600 - 300 = Y at RA hbn ⊢
    generalize (w3.alloc (.cells #[.int .i64 X, .int .i64 Y] 27)).drew = W5 at RA hbn ⊢
    replace B23 := hide (below_two (unhide B23) hbn)
    replace HB := hide (below_two (unhide HB) hbn)
    replace c2 := kc hbn c2
    generalize w3.heap.size = ga at RA ⊢
    clear hbn c0 c1 q0 q1 hx0 hx1 hpp n0 n1
    obtain ⟨rf, hrf⟩ : ∃ rf : Nat → Pt, Hid (∀ i, rf i = pf (n - 1 - i)) := ⟨fun i => pf (n - 1 - i), fun i => rfl⟩
    have q2 : IntKind.i64.wrap ((n : Int) - 1) = (n : Int) - 1 := IntWalk.i64_in _ (by omega)
    go_wp2_with fail
    go_loopw [6, 7] (fun v i u => ∃ (k : Nat) (z : Int), k ≤ n ∧ i = .int .i64 z ∧ z = (n : Int) - 1 - k ∧ Hid (u.ownsRow W5.heap.size 27 2 v (listN rf k).length (ptsV (listN rf k))) ∧ Hid (Below W5.heap.size W5 u)) (fun _ i _ => ((intOf i) + 1).toNat)
    case atStart => exact ⟨0, (n : Int) - 1, Nat.zero_le _, rfl, by simp, World.ownsRow_lit W5 #[] 0 (Nat.le_refl _) (by decide) rfl, al1_below _ _⟩
    case round =>
      obtain ⟨k, z, hk, rfl, hz, O, HW⟩ := hrel
      by_cases hlt : k < n
      · obtain ⟨j, hj⟩ : ∃ j : Nat, j = n - 1 - k := ⟨_, rfl⟩
        have ez : z = (j : Int) := by omega
        subst ez
        have hjn : (j : Int) < (n : Int) := by omega
        have hw1 : IntKind.i64.wrap ((j : Int) - 1) = (j : Int) - 1 := IntWalk.i64_in _ (by omega)
        have hge : (0 : Int) ≤ (j : Int) := by omega
        have HQ := unhide HP wr (below_two (unhide B23) (unhide HW)) j (by omega)
        have hm := hide (listN_more rf k)
        have hlk := listN_len rf k
        rw [unhide hrf k, ← hj] at hm
        generalize pf j = z1 at HQ hm
        obtain ⟨px, py⟩ := z1
        obtain ⟨s, o, rfl, g0, g1⟩ := HQ
        dsimp only at g0 g1
        obtain ⟨av, cv, ev⟩ := own_form (unhide O)
        subst ev
        have hjk := hide (show k + j + 1 = n by omega)
        clear hj hz
        go_wp2_with (at_builtin; go_must (refine wpList_append_pt wr rfl _ _ 34 27 rfl W5.heap.size i0 (.agg #[.int .i64 0, .int .i64 0]) 16 Try.underlying34 hi hz0 hz1 hz2 rfl _ (listN rf k) (by rfl) (unhide O) px py 1 rfl (by unfold maxLen; omega) (by omega) W5 W5.heap.size (Nat.le_refl _) (unhide HW).size (unhide HW) ?_); intro v' w4 hown2 hb4)
        go_roundw
        case rel => exact ⟨k + 1, _, by omega, rfl, by have := unhide hjk; omega, by rw [unhide hm]; exact hown2, hb4⟩
        case measure => simp [intOf]
      · have hke : k = n := by omega
        subst hke
        have hz' : z = -1 := by omega
        subst hz'
        rw [listN_len] at O
        obtain ⟨ba, bc, ev⟩ := own_form (unhide O)
        subst ev
        have HR := hide (fun (u : World) (hu : Below wr.heap.size wr u) i (hi : i < k) => (own_pxa (unhide O) (px_listN rf k) i hi).next hu)
        have RA1 := hide (row_next (unhide HW) (unhide RA))
        replace B23 := hide (below_two (unhide B23) (unhide HW))
        replace HB := hide (below_two (unhide HB) (unhide HW))
        replace c2 := kc (unhide HW) c2
        clear O HW RA hlt hk
        have E0 := hide (fun u hu => unhide EWI pf la k lc (by omega) X Y u (unhide HP u hu))
        have E1 := hide (fun u hu => unhide EWI rf ba k bc (by omega) X Y u (unhide HR u hu))
        have hback := windP_back (n := k) (pf := pf) (rf := rf) (fun i _ => unhide hrf i) (X, Y)
        rw [hback] at E1
        have ES := hide (fun u hu => specWindOf_any pf la k lc (by omega) X Y u (unhide HP u hu))
        have ECA := hide (fun (even : Bool) (b : Nat) u h => unhide ECI 2 (fun _ => k) (fun i => if i = 0 then pf else pf) (by omega) (fun _ _ => by omega) (some ⟨b, 0, none⟩) 2 even X Y u h)
        have ECB := hide (fun (even : Bool) (b : Nat) u h => unhide ECI 2 (fun _ => k) (fun i => if i = 0 then pf else rf) (by omega) (fun _ _ => by omega) (some ⟨b, 0, none⟩) 2 even X Y u h)
        simp only [covers_two] at ECA ECB
        rw [hback] at ECB
        have hbd := windP_bd k pf (X, Y)
        generalize windP k pf (X, Y) = C at E0 E1 ES ECA ECB hbd
        have eA : Hid ((if false = true then decide ((C + C) % 2 ≠ 0) else decide (C + C ≠ 0)) = (C != 0)) := by
          unfold Hid; rw [if_neg (by decide), Bool.eq_iff_iff, decide_eq_true_iff, bne_iff_ne]; omega
        have eB : Hid ((if true = true then decide ((C + C) % 2 ≠ 0) else decide (C + C ≠ 0)) = false) := by
          unfold Hid; simp; omega
        have eC : Hid ((if false = true then decide ((C + -C) % 2 ≠ 0) else decide (C + -C ≠ 0)) = false) := by
          unfold Hid; simp; omega
        have ECA0 := hide (unhide ECA false)
        have ECA1 := hide (unhide ECA true)
        have ECB0 := hide (unhide ECB false)
        rw [unhide eA] at ECA0
        rw [unhide eB] at ECA1
        rw [unhide eC] at ECB0
        clear ECA ECB eA eB eC hback
        -- the tail
        have BR := hide (Below.refl wr.heap.size wr)
        obtain ⟨r0, r1⟩ := row2 (unhide RA1)
        have n0 := fun o => kn o r0
        have n1 := fun o => kn o r1
        go_wp2_with fail
        go_fit (unhide E0 _ (unhide B23))
        rintro r u1 ⟨rfl, hb⟩
        replace c2 := kc hb c2
        replace RA1 := hide (row_next hb (unhide RA1))
        replace BR := hide (below_two (unhide BR) hb)
        replace B23 := hide (below_two (unhide B23) hb)
        replace HB := hide (below_two (unhide HB) hb)
        clear hb r0 r1 n0 n1
        obtain ⟨r0, r1⟩ := row2 (unhide RA1)
        have n0 := fun o => kn o r0
        have n1 := fun o => kn o r1
        have hb16 : 0 ≤ x2 % 16 ∧ x2 % 16 ≤ 15 := by omega
        go_wp2_with fail
        go_fit (unhide E1 _ (unhide BR))
        rintro r u2 ⟨rfl, hb⟩
        replace RA1 := hide (row_next hb (unhide RA1))
        replace BR := hide (below_two (unhide BR) hb)
        replace B23 := hide (below_two (unhide B23) hb)
        replace HB := hide (below_two (unhide HB) hb)
        clear hb r0 r1 n0 n1 c2
        obtain ⟨r0, r1⟩ := row2 (unhide RA1)
        have n0 := fun o => kn o r0
        have n1 := fun o => kn o r1
        have m1 : IntKind.i64.wrap (- -C) = C := by rw [Int.neg_neg]; exact IntWalk.i64_in _ (by omega)
        have hcc : (C == C) = true := by simp
        go_wp2_with fail
        go_fit (unhide ES _ (unhide B23))
        rintro r u3 ⟨rfl, hb⟩
        replace RA1 := hide (row_next hb (unhide RA1))
        replace BR := hide (below_two (unhide BR) hb)
        replace B23 := hide (below_two (unhide B23) hb)
        replace HB := hide (below_two (unhide HB) hb)
        clear hb r0 r1 n0 n1
        obtain ⟨r0, r1⟩ := row2 (unhide RA1)
        have n0 := fun o => kn o r0
        have n1 := fun o => kn o r1
        go_wp2_with fail
        have RL := hide (new_row u3 (.cells #[.slice la k lc, .slice la k lc] 34))
        have hb := al1_below u3 (.cells #[.slice la k lc, .slice la k lc] 34)
        replace RA1 := hide (row_next hb (unhide RA1))
        replace BR := hide (below_two (unhide BR) hb)
        replace B23 := hide (below_two (unhide B23) hb)
        replace HB := hide (below_two (unhide HB) hb)
        generalize u3.alloc (.cells #[.slice la k lc, .slice la k lc] 34) = v4 at RL hb RA1 BR B23 HB ⊢
        go_fit (unhide ECA0 _ _ (largs_two (unhide RL) (unhide HP _ (unhide B23)) (unhide HP _ (unhide B23))))
        clear hb RL
        rintro r u4 ⟨rfl, hb⟩
        replace RA1 := hide (row_next hb (unhide RA1))
        replace BR := hide (below_two (unhide BR) hb)
        replace B23 := hide (below_two (unhide B23) hb)
        replace HB := hide (below_two (unhide HB) hb)
        clear hb r0 r1 n0 n1
        obtain ⟨r0, r1⟩ := row2 (unhide RA1)
        have n0 := fun o => kn o r0
        have n1 := fun o => kn o r1
        go_wp2_with fail
        have RL := hide (new_row u4 (.cells #[.slice la k lc, .slice la k lc] 34))
        have hb := al1_below u4 (.cells #[.slice la k lc, .slice la k lc] 34)
        replace RA1 := hide (row_next hb (unhide RA1))
        replace BR := hide (below_two (unhide BR) hb)
        replace B23 := hide (below_two (unhide B23) hb)
        replace HB := hide (below_two (unhide HB) hb)
        generalize u4.alloc (.cells #[.slice la k lc, .slice la k lc] 34) = v5 at RL hb RA1 BR B23 HB ⊢
        go_fit (unhide ECA1 _ _ (largs_two (unhide RL) (unhide HP _ (unhide B23)) (unhide HP _ (unhide B23))))
        clear hb RL
        rintro r u5 ⟨rfl, hb⟩
        replace RA1 := hide (row_next hb (unhide RA1))
        replace BR := hide (below_two (unhide BR) hb)
        replace B23 := hide (below_two (unhide B23) hb)
        replace HB := hide (below_two (unhide HB) hb)
        clear hb r0 r1 n0 n1
        obtain ⟨r0, r1⟩ := row2 (unhide RA1)
        have n0 := fun o => kn o r0
        have n1 := fun o => kn o r1
        go_wp2_with fail
        have RL := hide (new_row u5 (.cells #[.slice la k lc, .slice ba k bc] 34))
        have hb := al1_below u5 (.cells #[.slice la k lc, .slice ba k bc] 34)
        replace RA1 := hide (row_next hb (unhide RA1))
        replace BR := hide (below_two (unhide BR) hb)
        replace B23 := hide (below_two (unhide B23) hb)
        replace HB := hide (below_two (unhide HB) hb)
        generalize u5.alloc (.cells #[.slice la k lc, .slice ba k bc] 34) = v6 at RL hb RA1 BR B23 HB ⊢
        go_fit (unhide ECB0 _ _ (largs_two (unhide RL) (unhide HP _ (unhide B23)) (unhide HR _ (unhide BR))))
        clear hb RL
        rintro r u6 ⟨rfl, hb⟩
        replace RA1 := hide (row_next hb (unhide RA1))
        replace BR := hide (below_two (unhide BR) hb)
        replace B23 := hide (below_two (unhide B23) hb)
        replace HB := hide (below_two (unhide HB) hb)
        clear hb r0 r1 n0 n1
        have EN := hide (unhide ENI (x2 % 16))
        generalize x2 % 16 = b at EN hb16 ⊢
        have hcI : countI b = b % 2 + b / 2 % 2 + b / 4 % 2 + b / 8 := by unfold countI; rw [if_pos (inB_true.2 (by omega))]
        rw [hcI] at EN
        clear hcI
        have b1 : IntKind.i64.wrap (b % 2 + b / 2 % 2) = b % 2 + b / 2 % 2 := IntWalk.i64_in _ (by omega)
        have b2 : IntKind.i64.wrap (b % 2 + b / 2 % 2 + b / 4 % 2) = b % 2 + b / 2 % 2 + b / 4 % 2 := IntWalk.i64_in _ (by omega)
        have b3 : IntKind.i64.wrap (b % 2 + b / 2 % 2 + b / 4 % 2 + b / 8) = b % 2 + b / 2 % 2 + b / 4 % 2 + b / 8 := IntWalk.i64_in _ (by omega)
        go_wp2_with fail
        go_fit (unhide EN _)
        rintro r u7 ⟨rfl, hb⟩
        replace HB := hide (below_two (unhide HB) hb)
        clear hb
        go_wp2_with fail
        go_ret
        exact ⟨rfl, unhide HB⟩
  · go_enter Try.func4, Try.ntmps4
    go_wp2_with (go_at_call 9; go_must (refine (big_yes a0 len0 cap0 hl _).mono ?_); rintro e w1 ⟨rfl, rfl⟩)
    go_ret
    exact ⟨rfl, Below.refl _ _⟩
end Go.Proofs.Yticgjigjlclefaa
