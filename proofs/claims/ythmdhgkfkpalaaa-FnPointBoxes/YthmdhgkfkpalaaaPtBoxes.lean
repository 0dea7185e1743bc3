/-
  The walk of the law on the boxes of points.
-/
import Derived.Test.YthmdhgkfkpalaaaPointsP
import Derived.Test.YthmdhgkfkpalaaaSquaresI
import Derived.Test.YthmdhgkfkpalaaaDrawP
import Derived.Test.YthmdhgkfkpalaaaQuietIn
import Derived.Deep.RegionHeld3
import Derived.Deep.DeepCutAuto
import Derived.Deep.DeepFit
namespace Go.Proofs.Ythmdhgkfkpalaaa
open Go.RowKit
set_option linter.unusedVariables false

theorem edge_step {f : Nat → Int × Int} {k c : Nat} {J x : Int} (h : (∃ j, j < k ∧ (f j).1 = J) → 1 ≤ c) (hx : (f k).1 = x) (hn : ¬ x = J) : (∃ j, j < k + 1 ∧ (f j).1 = J) → 1 ≤ c := by
  rintro ⟨j, hj, he⟩
  by_cases hjk : j = k
  · subst hjk; exact absurd (hx.symm.trans he) hn
  · exact h ⟨j, by omega, he⟩

attribute [local go_sem ↓] eqlBox in
set_option maxHeartbeats 8000000 in
set_option maxRecDepth 100000 in
theorem fnPointBoxes_walk (a0 : Option Addr) (len0 cap0 : Nat) (z0 : List Int) (w : World) (w0 : IsRow .u8 w a0 len0 cap0 z0) :
    Calls Try.prog 3 #[.slice a0 len0 cap0] w fun e w' => e = .returned (.bool true) ∧ Below w.heap.size w w' := by
  by_cases hl : len0 ≤ 1048576
  · have HI := hide (InB.of_row w0)
    clear w0
    go_enter Try.func3, Try.ntmps3
    go_wp2_with fail
    refine (big_no a0 len0 cap0 hl _).mono ?_
    rintro r w1 ⟨rfl, rfl⟩
    go_wp2_with fail
    refine (drawPoints_any a0 len0 cap0 _ hl (unhide HI)).mono ?_
    rintro r w2 ⟨v, l, hl4, hl8, hsm, rfl, hown, hb2⟩
    obtain ⟨ao, cap, rfl, hcap, hpt⟩ := own_pts hown
    clear hown HI
    generalize hn : l.length = n at hl4 hl8 hcap
    obtain ⟨f, hf⟩ : ∃ f : Nat → Int × Int, ∀ i (hi : i < l.length), f i = l[i] := ⟨fun i => l.getD i (0, 0), fun i hi => by simp [List.getD_eq_getElem?_getD, hi]⟩
    have hpt2 : ∀ i, i < n → PtIn w2 ao i (f i) := fun i hi => by rw [hf i (by omega)]; exact hpt i (by omega)
    have hsm2 : ∀ i, i < n → SmallPt (f i) := fun i hi => by rw [hf i (by omega)]; exact hsm _ (List.getElem_mem _)
    clear hpt hsm hf
    clear hn l
    obtain ⟨m, rfl⟩ : ∃ m, n = m + 1 := ⟨n - 1, by omega⟩
    have HB := boxHas hsm2
    have eS : joinN (fun i => pbox (f i)) (m + 1) = joinN (fun i => nbox (f i)) (m + 1) := joinN_same fun i hi => pbox_near (hsm2 i hi)
    have hS := fun w => specBoxOf_any f ao (m + 1) cap (by omega) w
    have hA := fun w => implBoxOf_any f ao (m + 1) cap (by omega) w
    rw [eS] at hS
    rw [eS] at hA
    generalize joinN (fun i => nbox (f i)) (m + 1) = J at HB hS hA
    have iB := hide (box_has HB)
    have iS := hide (sqrs_has HB)
    have eE := hide HB.edge
    obtain ⟨J0, J1, J2, J3⟩ := J
    have jb := HB.lox
    have jc := HB.loy
    clear HB eS
    dsimp only at hS hA iB iS eE jb jc
    have hQ := implSquares_any J0 J1 J2 J3
    have hQs := specSquares_any J0 J1 J2 J3
    generalize sqrs0 J0 J1 J2 J3 = S0 at hQ hQs iS
    generalize sqrs1 J0 J1 J2 J3 = S1 at hQ hQs iS
    generalize sqrs2 J0 J1 J2 J3 = S2 at hQ hQs iS
    generalize sqrs3 J0 J1 J2 J3 = S3 at hQ hQs iS
    replace hS := hide hS
    replace hA := hide hA
    replace hQ := hide hQ
    replace hQs := hide hQs
    replace hpt2 := hide hpt2
    replace hsm2 := hide hsm2
    go_wp2_with fail
    refine (unhide hA _ (unhide hpt2)).mono ?_
    rintro r v1 ⟨rfl, hb⟩
    have HB := hide (below_two hb2 hb)
    replace hpt2 := hide (fun i hi => (unhide hpt2 i hi).next hb)
    clear hb hb2
    go_wp2_with fail
    obtain ⟨V1, hV⟩ : ∃ V, V = v1.alloc (.cells #[.int .i64 J0, .int .i64 J1, .int .i64 J2, .int .i64 J3] 27) := ⟨_, rfl⟩
    have rJ := hide (show V1.heap[v1.heap.size]? = some (.cells #[.int .i64 J0, .int .i64 J1, .int .i64 J2, .int .i64 J3] 27 (0, 0)) by rw [hV]; exact new_row _ _)
    replace HB := hide (show Below w1.heap.size w1 V1 by rw [hV]; exact below_new _ (unhide HB) (Nat.le_refl _))
    replace hpt2 := hide (show ∀ i, i < m + 1 → PtIn V1 ao i (f i) from fun i hi => (unhide hpt2 i hi).next (by rw [hV]; exact below_new _ (Below.refl _ _) (Nat.le_refl _)))
    rw [← hV]
    clear hV
    go_fit (unhide hQ _)
    rintro r v2 ⟨rfl, hb⟩
    replace rJ := hide (row_next hb (unhide rJ))
    replace HB := hide (below_two (unhide HB) hb)
    replace hpt2 := hide (fun i hi => (unhide hpt2 i hi).next hb)
    clear hb
    go_wp2_with fail
    obtain ⟨V2, hV⟩ : ∃ V, V = v2.alloc (.cells #[.int .i64 S0, .int .i64 S1, .int .i64 S2, .int .i64 S3] 27) := ⟨_, rfl⟩
    replace rJ := hide (show V2.heap[v1.heap.size]? = some (.cells #[.int .i64 J0, .int .i64 J1, .int .i64 J2, .int .i64 J3] 27 (0, 0)) by rw [hV]; exact old_row _ (unhide rJ))
    have rS := hide (show V2.heap[v2.heap.size]? = some (.cells #[.int .i64 S0, .int .i64 S1, .int .i64 S2, .int .i64 S3] 27 (0, 0)) by rw [hV]; exact new_row _ _)
    replace HB := hide (show Below w1.heap.size w1 V2 by rw [hV]; exact below_new _ (unhide HB) (Nat.le_refl _))
    replace hpt2 := hide (show ∀ i, i < m + 1 → PtIn V2 ao i (f i) from fun i hi => (unhide hpt2 i hi).next (by rw [hV]; exact below_new _ (Below.refl _ _) (Nat.le_refl _)))
    rw [← hV]
    clear hV
    go_loopw [6] (fun i u => ∃ k : Nat, k ≤ m + 1 ∧ i = .int .i64 k ∧ Below V2.heap.size V2 u) (fun i _ => m + 1 - (intOf i).toNat)
    case atStart => exact ⟨0, Nat.zero_le _, rfl, Below.refl _ _⟩
    case round =>
      obtain ⟨k, hk, rfl, hb⟩ := hrel
      by_cases hlt : k < m + 1
      · have HP := (unhide hpt2 k hlt).next hb
        have i1 := unhide iB k hlt
        have i2 := unhide iS k hlt
        have sm := unhide hsm2 k hlt
        generalize f k = p at HP i1 i2 sm
        obtain ⟨x, y⟩ := p
        obtain ⟨⟨sx1, sx2⟩, sy1, sy2⟩ := sm
        dsimp only at i1 i2 sx1 sx2 sy1 sy2
        obtain ⟨s, rfl, g0, g1⟩ := HP
        dsimp only at g0 g1
        have F0 := hide (specFloorDiv_any x 256 (by omega) (by omega))
        have F1 := hide (specFloorDiv_any y 256 (by omega) (by omega))
        have I1 := implInBox_any J0 J1 J2 J3 x y
        rw [i1] at I1
        have I2 := implInBox_any S0 S1 S2 S3 (fdivI x 256) (fdivI y 256)
        rw [i2] at I2
        clear i1 i2
        generalize fdivI x 256 = qx at F0 I2
        generalize fdivI y 256 = qy at F1 I2
        replace I1 := hide I1
        replace I2 := hide I2
        have WB := hide hb
        clear hb
        go_wp2_with fail
        have k0 : ∀ u, Below wr.heap.size wr u → (u.cell? ⟨s, k * 2, none⟩ = some (.int .i64 x) ∧ u.cell? ⟨s, k * 2 + 1, none⟩ = some (.int .i64 y)) := fun u h => ⟨kc h g0, kc h g1⟩
        replace k0 := hide k0
        go_cut [7] (fun q u => q = .pointer (some ⟨wr.heap.size, 0, none⟩) ∧ u = (wr.alloc (.cells #[.int .i64 qx, .int .i64 qy] 32)).drew)
        case first =>
          go_region_held3 (fun u => u.cell? ⟨s, k * 2, none⟩ = some (.int .i64 x) ∧ u.cell? ⟨s, k * 2 + 1, none⟩ = some (.int .i64 y)) ((with_reducible refine unhide k0 _ ?_; first | with_reducible exact (Below.refl _ _).drew | (with_reducible refine below_new _ ?_ (Nat.le_refl _); with_reducible exact (Below.refl _ _).drew) | (with_reducible refine Below.drew ?_; with_reducible exact below_new _ (Below.refl _ _) (Nat.le_refl _)))) (first | (go_at_call 9; (first | go_fit (unhide F0 _) | go_fit (unhide F1 _)); rintro r w4 ⟨rfl, rfl⟩))
          all_goals
            go_wp2_with fail
            go_meet
            exact ⟨rfl, rfl⟩
        case rest =>
          obtain ⟨rfl, hwc⟩ := hcut
          have rJ' := hide (show wc.heap[v1.heap.size]? = some (.cells #[.int .i64 J0, .int .i64 J1, .int .i64 J2, .int .i64 J3] 27 (0, 0)) by rw [hwc]; exact row_drew (old_row _ (row_next (unhide WB) (unhide rJ))))
          have rS' := hide (show wc.heap[v2.heap.size]? = some (.cells #[.int .i64 S0, .int .i64 S1, .int .i64 S2, .int .i64 S3] 27 (0, 0)) by rw [hwc]; exact row_drew (old_row _ (row_next (unhide WB) (unhide rS))))
          have rQ := hide (show wc.heap[wr.heap.size]? = some (.cells #[.int .i64 qx, .int .i64 qy] 32 (0, 0)) by rw [hwc]; exact row_drew (new_row _ _))
          have gC : Hid (wc.cell? ⟨s, k * 2, none⟩ = some (.int .i64 x) ∧ wc.cell? ⟨s, k * 2 + 1, none⟩ = some (.int .i64 y)) := by unfold Hid; rw [hwc]; exact unhide k0 _ ((Below.refl _ _).alloc (Nat.le_refl _) _).drew
          have WC := hide (show Below V2.heap.size V2 wc by rw [hwc]; exact (below_new _ (unhide WB) (Nat.le_refl _)).drew)
          clear hwc g0 g1 k0 WB F0 F1
          have k0 : ∀ u, Below wc.heap.size wc u → (u.cell? ⟨v1.heap.size, 0, none⟩ = some (.int .i64 J0) ∧ u.cell? ⟨v1.heap.size, 1, none⟩ = some (.int .i64 J1) ∧ u.cell? ⟨v1.heap.size, 2, none⟩ = some (.int .i64 J2) ∧ u.cell? ⟨v1.heap.size, 3, none⟩ = some (.int .i64 J3) ∧ u.cell? ⟨v2.heap.size, 0, none⟩ = some (.int .i64 S0) ∧ u.cell? ⟨v2.heap.size, 1, none⟩ = some (.int .i64 S1) ∧ u.cell? ⟨v2.heap.size, 2, none⟩ = some (.int .i64 S2) ∧ u.cell? ⟨v2.heap.size, 3, none⟩ = some (.int .i64 S3) ∧ u.cell? ⟨wr.heap.size, 0, none⟩ = some (.int .i64 qx) ∧ u.cell? ⟨wr.heap.size, 1, none⟩ = some (.int .i64 qy) ∧ u.cell? ⟨s, k * 2, none⟩ = some (.int .i64 x) ∧ u.cell? ⟨s, k * 2 + 1, none⟩ = some (.int .i64 y) ∧ Below wc.heap.size wc u) := fun u h => by
            obtain ⟨z00, z01, z02, z03⟩ := row4 (row_next h (unhide rJ'))
            obtain ⟨z10, z11, z12, z13⟩ := row4 (row_next h (unhide rS'))
            obtain ⟨z20, z21⟩ := row2 (row_next h (unhide rQ))
            exact ⟨z00, z01, z02, z03, z10, z11, z12, z13, z20, z21, kc h (unhide gC).1, kc h (unhide gC).2, h⟩
          have kS : ∀ u, (u.cell? ⟨v1.heap.size, 0, none⟩ = some (.int .i64 J0) ∧ u.cell? ⟨v1.heap.size, 1, none⟩ = some (.int .i64 J1) ∧ u.cell? ⟨v1.heap.size, 2, none⟩ = some (.int .i64 J2) ∧ u.cell? ⟨v1.heap.size, 3, none⟩ = some (.int .i64 J3) ∧ u.cell? ⟨v2.heap.size, 0, none⟩ = some (.int .i64 S0) ∧ u.cell? ⟨v2.heap.size, 1, none⟩ = some (.int .i64 S1) ∧ u.cell? ⟨v2.heap.size, 2, none⟩ = some (.int .i64 S2) ∧ u.cell? ⟨v2.heap.size, 3, none⟩ = some (.int .i64 S3) ∧ u.cell? ⟨wr.heap.size, 0, none⟩ = some (.int .i64 qx) ∧ u.cell? ⟨wr.heap.size, 1, none⟩ = some (.int .i64 qy) ∧ u.cell? ⟨s, k * 2, none⟩ = some (.int .i64 x) ∧ u.cell? ⟨s, k * 2 + 1, none⟩ = some (.int .i64 y) ∧ Below wc.heap.size wc u) → Below wc.heap.size wc u := fun u h => h.2.2.2.2.2.2.2.2.2.2.2.2
          replace k0 := hide k0
          have hW0 : Below wc.heap.size wc wc.drew := (Below.refl _ _).drew
          go_wp2_with fail
          go_region_held3 (fun u => u.cell? ⟨v1.heap.size, 0, none⟩ = some (.int .i64 J0) ∧ u.cell? ⟨v1.heap.size, 1, none⟩ = some (.int .i64 J1) ∧ u.cell? ⟨v1.heap.size, 2, none⟩ = some (.int .i64 J2) ∧ u.cell? ⟨v1.heap.size, 3, none⟩ = some (.int .i64 J3) ∧ u.cell? ⟨v2.heap.size, 0, none⟩ = some (.int .i64 S0) ∧ u.cell? ⟨v2.heap.size, 1, none⟩ = some (.int .i64 S1) ∧ u.cell? ⟨v2.heap.size, 2, none⟩ = some (.int .i64 S2) ∧ u.cell? ⟨v2.heap.size, 3, none⟩ = some (.int .i64 S3) ∧ u.cell? ⟨wr.heap.size, 0, none⟩ = some (.int .i64 qx) ∧ u.cell? ⟨wr.heap.size, 1, none⟩ = some (.int .i64 qy) ∧ u.cell? ⟨s, k * 2, none⟩ = some (.int .i64 x) ∧ u.cell? ⟨s, k * 2 + 1, none⟩ = some (.int .i64 y) ∧ Below wc.heap.size wc u) ((with_reducible refine unhide k0 _ ?_; with_reducible assumption)) (first | (go_at_call 10; (first | go_fit (unhide I1 _) | go_fit (unhide I2 _)); rintro r w4 ⟨rfl, hb4⟩; have hW4 := below_after hb4 (kS _ (by with_reducible assumption)) (Nat.le_refl _)))
          all_goals
            have hW9 := kS _ (by with_reducible assumption)
            rename_i hH
            go_wp2_with fail
            go_roundw
            case rel => exact ⟨k + 1, by omega, by go_num, below_after hW9 (unhide WC) (Nat.le_refl _)⟩
            case measure => simp [intOf]; omega
      · have hke : k = m + 1 := by omega
        subst hke
        have WB := hide hb
        clear hb iB iS hQ
        go_wp2_with fail
        go_loopw [8, 9] (fun t i u => ∃ k e : Nat, k ≤ m + 1 ∧ e ≤ k ∧ t = .int .i64 e ∧ i = .int .i64 k ∧ Hid ((∃ j, j < k ∧ (f j).1 = J0) → 1 ≤ e) ∧ Below V2.heap.size V2 u) (fun _ i _ => m + 1 - (intOf i).toNat)
        case atStart => exact ⟨0, 0, Nat.zero_le _, Nat.le_refl _, rfl, rfl, fun ⟨j, hj, _⟩ => absurd hj (by omega), unhide WB⟩
        case round =>
          clear WB
          obtain ⟨k, c, hk, hck, rfl, rfl, hE, hb⟩ := hrel
          by_cases hlt : k < m + 1
          · have HP := (unhide hpt2 k hlt).next hb
            have sm := unhide hsm2 k hlt
            obtain ⟨p, hp⟩ : ∃ p, p = f k := ⟨_, rfl⟩
            rw [← hp] at HP sm
            obtain ⟨x, y⟩ := p
            have hx := hide (show (f k).1 = x by rw [← hp])
            clear hp
            obtain ⟨⟨sx1, sx2⟩, sy1, sy2⟩ := sm
            dsimp only at sx1 sx2 sy1 sy2
            obtain ⟨s, rfl, g0, g1⟩ := HP
            dsimp only at g0 g1
            have rJ' := row_next hb (unhide rJ)
            obtain ⟨j0, j1, j2, j3⟩ := row4 rJ'
            clear rJ'
            have WB := hide hb
            clear hb
            have u0 : IntKind.i64.wrap (x + 1) = x + 1 := IntWalk.i64_in _ (by omega)
            have u1 : IntKind.i64.wrap (y + 1) = y + 1 := IntWalk.i64_in _ (by omega)
            by_cases h1 : x = J0
            · skip
              have d1 : ((x) == J0) = true := beq_iff_eq.2 h1
              go_upto_region 16 with fail
              go_quiet (fail)
              go_wp2_with fail
              go_roundw
              case rel => exact ⟨k + 1, c + 1, by omega, by omega, by go_num, by go_num, fun _ => by omega, below_drews (unhide WB) _⟩
              case measure => simp [intOf]; omega
            · skip
              have d1 : ((x) == J0) = false := beq_eq_false_iff_ne.2 h1
              by_cases h2 : y = J1
              · skip
                have d2 : ((y) == J1) = true := beq_iff_eq.2 h2
                go_upto_region 16 with fail
                go_quiet (fail)
                go_wp2_with fail
                go_roundw
                case rel => exact ⟨k + 1, c + 1, by omega, by omega, by go_num, by go_num, fun _ => by omega, below_drews (unhide WB) _⟩
                case measure => simp [intOf]; omega
              · skip
                have d2 : ((y) == J1) = false := beq_eq_false_iff_ne.2 h2
                by_cases h3 : x + 1 = J2
                · skip
                  have d3 : ((x + 1) == J2) = true := beq_iff_eq.2 h3
                  go_upto_region 16 with fail
                  go_quiet (fail)
                  go_wp2_with fail
                  go_roundw
                  case rel => exact ⟨k + 1, c + 1, by omega, by omega, by go_num, by go_num, fun _ => by omega, below_drews (unhide WB) _⟩
                  case measure => simp [intOf]; omega
                · skip
                  have d3 : ((x + 1) == J2) = false := beq_eq_false_iff_ne.2 h3
                  by_cases h4 : y + 1 = J3
                  · skip
                    have d4 : ((y + 1) == J3) = true := beq_iff_eq.2 h4
                    go_upto_region 16 with fail
                    go_quiet (fail)
                    go_wp2_with fail
                    go_roundw
                    case rel => exact ⟨k + 1, c + 1, by omega, by omega, by go_num, by go_num, fun _ => by omega, below_drews (unhide WB) _⟩
                    case measure => simp [intOf]; omega
                  · skip
                    have d4 : ((y + 1) == J3) = false := beq_eq_false_iff_ne.2 h4
                    go_upto_region 16 with fail
                    go_quiet (fail)
                    go_wp2_with fail
                    go_roundw
                    case rel => exact ⟨k + 1, c, by omega, by omega, rfl, by go_num, edge_step (unhide hE) (unhide hx) h1, below_drews (unhide WB) _⟩
                    case measure => simp [intOf]; omega
          · have hke : k = m + 1 := by omega
            subst hke
            have hc1 : 1 ≤ c := unhide hE (unhide eE)
            have hd : decide ((0 : Int) < (c : Int)) = true := decide_eq_true (by omega)
            have hd2 : decide (0 < c) = true := decide_eq_true (by omega)
            have hd3 : 0 < c := hc1
            have hA0 : ∀ (ao : Option Addr) (w : World), Calls Try.prog 7 #[.slice ao 0 0] w fun r w' => r = .returned (.agg #[.int .i64 0, .int .i64 0, .int .i64 0, .int .i64 0]) ∧ Below w.heap.size w w' := fun ao w => implBoxOf_any (fun _ => (0, 0)) ao 0 0 (by omega) w (fun i hi => absurd hi (by omega))
            have hE0 : ∀ (w : World), Calls Try.prog 13 #[.agg #[.int .i64 0, .int .i64 0, .int .i64 0, .int .i64 0]] w fun r w' => r = .returned (.bool true) ∧ Below w.heap.size w w' := implEmpty_any 0 0 0 0
            replace hA0 := hide hA0
            replace hE0 := hide hE0
            clear hE eE
            have k0 : ∀ u, Below V2.heap.size V2 u → (u.cell? ⟨v1.heap.size, 0, none⟩ = some (.int .i64 J0) ∧ u.cell? ⟨v1.heap.size, 1, none⟩ = some (.int .i64 J1) ∧ u.cell? ⟨v1.heap.size, 2, none⟩ = some (.int .i64 J2) ∧ u.cell? ⟨v1.heap.size, 3, none⟩ = some (.int .i64 J3) ∧ u.cell? ⟨v2.heap.size, 0, none⟩ = some (.int .i64 S0) ∧ u.cell? ⟨v2.heap.size, 1, none⟩ = some (.int .i64 S1) ∧ u.cell? ⟨v2.heap.size, 2, none⟩ = some (.int .i64 S2) ∧ u.cell? ⟨v2.heap.size, 3, none⟩ = some (.int .i64 S3) ∧ Below V2.heap.size V2 u) := fun u h => by
              obtain ⟨z00, z01, z02, z03⟩ := row4 (row_next h (unhide rJ))
              obtain ⟨z10, z11, z12, z13⟩ := row4 (row_next h (unhide rS))
              exact ⟨z00, z01, z02, z03, z10, z11, z12, z13, h⟩
            have kS : ∀ u, (u.cell? ⟨v1.heap.size, 0, none⟩ = some (.int .i64 J0) ∧ u.cell? ⟨v1.heap.size, 1, none⟩ = some (.int .i64 J1) ∧ u.cell? ⟨v1.heap.size, 2, none⟩ = some (.int .i64 J2) ∧ u.cell? ⟨v1.heap.size, 3, none⟩ = some (.int .i64 J3) ∧ u.cell? ⟨v2.heap.size, 0, none⟩ = some (.int .i64 S0) ∧ u.cell? ⟨v2.heap.size, 1, none⟩ = some (.int .i64 S1) ∧ u.cell? ⟨v2.heap.size, 2, none⟩ = some (.int .i64 S2) ∧ u.cell? ⟨v2.heap.size, 3, none⟩ = some (.int .i64 S3) ∧ Below V2.heap.size V2 u) → Below V2.heap.size V2 u := fun u h => h.2.2.2.2.2.2.2.2
            replace k0 := hide k0
            have hW0 : Below V2.heap.size V2 wr.drew := hb.drew
            go_upto_region 18 with fail
            go_region_held3 (fun u => u.cell? ⟨v1.heap.size, 0, none⟩ = some (.int .i64 J0) ∧ u.cell? ⟨v1.heap.size, 1, none⟩ = some (.int .i64 J1) ∧ u.cell? ⟨v1.heap.size, 2, none⟩ = some (.int .i64 J2) ∧ u.cell? ⟨v1.heap.size, 3, none⟩ = some (.int .i64 J3) ∧ u.cell? ⟨v2.heap.size, 0, none⟩ = some (.int .i64 S0) ∧ u.cell? ⟨v2.heap.size, 1, none⟩ = some (.int .i64 S1) ∧ u.cell? ⟨v2.heap.size, 2, none⟩ = some (.int .i64 S2) ∧ u.cell? ⟨v2.heap.size, 3, none⟩ = some (.int .i64 S3) ∧ Below V2.heap.size V2 u) ((with_reducible refine unhide k0 _ ?_; first | with_reducible assumption | (with_reducible refine below_new _ ?_ (Nat.le_refl _); with_reducible assumption))) (first | (go_at_call 11; have hcur := kS _ (by with_reducible assumption); go_fit (unhide hS _ (fun i hi => (unhide hpt2 i hi).next hcur)); rintro r w4 ⟨rfl, hb4⟩; have hW4 := below_after hb4 hcur (Nat.le_refl _); clear hcur) | (go_at_call 12; have hcur := kS _ (by with_reducible assumption); go_fit (unhide hQs _); rintro r w4 ⟨rfl, hb4⟩; have hW4 := below_after hb4 hcur (Nat.le_refl _); clear hcur) | (go_at_call 7; have hcur := kS _ (by with_reducible assumption); go_fit (unhide hA0 _ _); rintro r w4 ⟨rfl, hb4⟩; have hW4 := below_after hb4 hcur (Nat.le_refl _); clear hcur) | (go_at_call 13; have hcur := kS _ (by with_reducible assumption); go_fit (unhide hE0 _); rintro r w4 ⟨rfl, hb4⟩; have hW4 := below_after hb4 hcur (Nat.le_refl _); clear hcur))
            all_goals
              have hW9 := kS _ (by with_reducible assumption)
              go_wp2_with fail
              go_ret
              exact ⟨rfl, below_after hW9 (unhide HB) (Nat.le_refl _)⟩
  · go_enter Try.func3, Try.ntmps3
    go_wp2_with (go_at_call 5; go_must (refine (big_yes a0 len0 cap0 hl _).mono ?_); rintro e w1 ⟨rfl, rfl⟩)
    go_ret
    exact ⟨rfl, Below.refl _ _⟩
end Go.Proofs.Ythmdhgkfkpalaaa
