/-
  TilesL: texts of one claim, in one.
-/
import Derived.Test.YtleffglliciioaaFnTilesM1
import Derived.Test.YtleffglliciioaaFnTilesM2
import Derived.Test.YtleffglliciioaaFnTilesM3
import Derived.Deep.RegionHeld3
import Derived.Deep.DeepCutAuto
import Derived.Deep.DeepFit

/-
  Tiles are the picture: each square is in one; those that meet drawn boxes are told, ascending. (By tileslaw.py.)
-/
namespace Go.Proofs.Ytleffglliciioaa
open Go.RowKit
set_option linter.unusedVariables false

theorem in_is (z : Bool) (f : Nat → Int) (ao : Option Addr) (n cap : Nat) (hn : n ≤ 1048576) (x : Int) (hz : z = true ↔ ∃ i, i < n ∧ f i = x) (w : World) (HA : ∀ i, i < n → IntAt w ao i (f i)) :
    Calls Try.prog 25 #[.slice ao n cap, .int .i64 x] w fun r w' => r = .returned (.bool z) ∧ Below w.heap.size w w' := by
  replace HA := hide HA
  have hyes := hide (fun i (hi : i < n) (e : f i = x) => hz.2 ⟨i, hi, e⟩)
  have hno := hide (fun (h : ∀ j, j < n → f j ≠ x) => show z = false by
    cases z with
    | false => rfl
    | true => obtain ⟨i, hi, e⟩ := hz.1 rfl; exact absurd e (h i hi))
  clear hz
  go_enter Try.func25, Try.ntmps25
  go_wp2_with fail
  go_loopw [5] (fun i u => ∃ k : Nat, k ≤ n ∧ i = .int .i64 k ∧ Hid (∀ j, j < k → f j ≠ x) ∧ Below w.heap.size w u) (fun i _ => n - (intOf i).toNat)
  case atStart => exact ⟨0, Nat.zero_le _, rfl, fun j hj => absurd hj (by omega), Below.refl _ _⟩
  case round =>
    obtain ⟨k, hk, rfl, hnk, hb⟩ := hrel
    by_cases hlt : k < n
    · have HP := (unhide HA k hlt).next hb
      have hstep : Hid (f k ≠ x → ∀ j, j < k + 1 → f j ≠ x) := fun h j hj => by
        by_cases e : j = k
        · rw [e]; exact h
        · exact unhide hnk j (by omega)
      have hy := hide (unhide hyes k hlt)
      generalize f k = y at HP hstep hy
      obtain ⟨s, o, rfl, g0⟩ := HP
      replace hb := hide hb
      have hlt' : (k : Int) < (n : Int) := by omega
      by_cases e : y = x
      · have hz := hide (unhide hy e)
        go_wp2_with fail
        go_ret
        exact ⟨by rw [unhide hz]; rfl, unhide hb⟩
      · go_wp2_with fail
        go_roundw
        case rel => exact ⟨k + 1, by omega, by go_num, unhide hstep e, unhide hb⟩
        case measure => simp [intOf]; omega
    · have hke : k = n := by omega
      subst hke
      have hz := hide (unhide hno (unhide hnk))
      have hlt' : ¬ (k : Int) < (k : Int) := by omega
      go_wp2_with fail
      go_ret
      exact ⟨by rw [unhide hz]; rfl, hb⟩

set_option maxHeartbeats 16000000 in
set_option maxRecDepth 100000 in
theorem fnTiles_of (EC : ∀ (a b : Int) (ha : (Lit.int .i64 a).wf = true) (hb : (Lit.int .i64 b).wf = true) (w : World), Calls Try.prog 8 #[.int .i64 a, .int .i64 b] w fun r w' => r = .returned (.int .i64 (tcI a b)) ∧ Below w.heap.size w w')
    (EB : ∀ (a b i : Int) (ha : (Lit.int .i64 a).wf = true) (hb : (Lit.int .i64 b).wf = true) (hi : (Lit.int .i64 i).wf = true) (w : World), Calls Try.prog 10 #[.int .i64 a, .int .i64 b, .int .i64 i] w fun r w' => r = .returned (.agg #[.int .i64 ((tileB a b i).x0), .int .i64 ((tileB a b i).y0), .int .i64 ((tileB a b i).x1), .int .i64 ((tileB a b i).y1)]) ∧ Below w.heap.size w w')
    (EO : ∀ (x y : Int) (hx : (Lit.int .i64 x).wf = true) (hy : (Lit.int .i64 y).wf = true) (G : Nat → B4) (ao : Option Addr) (m cap : Nat) (hm : m ≤ 1048576) (hc : m ≤ cap) (w : World) (P : ∀ i, i < m → RnAt w ao i (G i)), Calls Try.prog 15 #[.int .i64 x, .int .i64 y, .slice ao m cap] w fun r w' => IdsRes w r w' (tilesA x y G m))
    (a0 : Option Addr) (len0 cap0 : Nat) (z0 : List Int) (w : World) (w0 : IsRow .u8 w a0 len0 cap0 z0) :
    Calls Try.prog 6 #[.slice a0 len0 cap0] w fun e w' => e = .returned (.bool true) ∧ Below w.heap.size w w' := by
  by_cases hl : len0 ≤ 1048576
  · have HI := hide (InB.of_row w0)
    clear w0
    go_enter Try.func6, Try.ntmps6
    go_wp2_with fail
    refine (big_no a0 len0 cap0 hl _).mono ?_
    rintro e w1 ⟨rfl, hw1⟩
    replace hw1 := hw1.symm
    subst hw1
    go_wp2_with fail
    refine (drawPlaces_any a0 len0 cap0 _ hl (unhide HI)).mono ?_
    rintro e w3 ⟨vp, p, hp12, hpb, rfl, hop, hb3⟩
    have HB := hide hb3
    have OP := hide hop
    clear hop hb3
    obtain ⟨pp, pc, rfl, _, _, _, hpp⟩ := row_form (unhide OP)
    obtain ⟨gp, rfl, hgp1, hgp2⟩ := hpp (by omega)
    obtain ⟨x0, ⟨hx0, hx1⟩, c0⟩ := place_at (unhide OP) hpb 0 (by omega)
    obtain ⟨x1, ⟨hy0, hy1⟩, c1⟩ := place_at (unhide OP) hpb 1 (by omega)
    rw [hp12]
    clear hpb
    have t0 : x0.tmod 12 = x0 % 12 := Int.tmod_eq_emod_of_nonneg (by omega)
    have t1 : x1.tmod 12 = x1 % 12 := Int.tmod_eq_emod_of_nonneg (by omega)
    obtain ⟨W, hW, hWb⟩ : ∃ W : Nat, 1 + x0 % 12 = (W : Int) ∧ 1 ≤ W ∧ W ≤ 12 := ⟨(1 + x0 % 12).toNat, by omega, by omega, by omega⟩
    obtain ⟨H, hH, hHb⟩ : ∃ H : Nat, 1 + x1 % 12 = (H : Int) ∧ 1 ≤ H ∧ H ≤ 12 := ⟨(1 + x1 % 12).toNat, by omega, by omega, by omega⟩
    have m0 : IntKind.i64.wrap (x0 % 12) = x0 % 12 := IntWalk.i64_in _ (by omega)
    have m1 : IntKind.i64.wrap (x1 % 12) = x1 % 12 := IntWalk.i64_in _ (by omega)
    have v0 : IntKind.i64.wrap (1 + x0 % 12) = (W : Int) := by rw [IntWalk.i64_in _ (by omega)]; exact hW
    have v1 : IntKind.i64.wrap (1 + x1 % 12) = (H : Int) := by rw [IntWalk.i64_in _ (by omega)]; exact hH
    have wW : (Lit.int .i64 (W : Int)).wf = true := WalkArith.wf_i64 (by omega)
    have wH : (Lit.int .i64 (H : Int)).wf = true := WalkArith.wf_i64 (by omega)
    have iW : inB (W : Int) 1 12 = true := by simp only [inB, Bool.and_eq_true, decide_eq_true_eq]; omega
    have iH : inB (H : Int) 1 12 = true := by simp only [inB, Bool.and_eq_true, decide_eq_true_eq]; omega
    have hct := tc_bd (W : Int) (H : Int)
    obtain ⟨M, hM⟩ : ∃ M : Nat, tcI (W : Int) (H : Int) = (M : Int) := ⟨(tcI (W : Int) (H : Int)).toNat, by omega⟩
    rw [hM] at hct
    have EC1 := hide (fun u => EC (W : Int) (H : Int) wW wH u)
    have ESC := hide (specTileCount_any (W : Int) (H : Int))
    rw [hM] at EC1 ESC
    have EB1 := hide (fun (i : Nat) (hi : i ≤ 9) u => EB (W : Int) (H : Int) (i : Int) wW wH (WalkArith.wf_i64 (by omega)) u)
    have EO1 := hide (fun (G : Nat → B4) (ao : Option Addr) (m cap : Nat) (hm : m ≤ 1048576) (hc : m ≤ cap) u P => (EO (W : Int) (H : Int) wW wH G ao m cap hm hc u P).mono fun r w' (hr : IdsRes u r w' (tilesA (W : Int) (H : Int) G m)) => hr.open)
    have hone := hide (fun (x y : Nat) (hx : x < W) (hy : y < H) => hit_one iW iH (x := (x : Int)) (y := (y : Int)) (by omega) (by omega) hM)
    have hhd := hide (fun (x y : Nat) => hit_bd (W : Int) (H : Int) (x : Int) (y : Int))
    have hh0 := hide (fun (x y : Nat) => show (0 : Int) = hitN (W : Int) (H : Int) (x : Int) (y : Int) 0 from rfl)
    have hhs := hide (fun (x y k : Nat) => show hitN (W : Int) (H : Int) (x : Int) (y : Int) (k + 1) = hitN (W : Int) (H : Int) (x : Int) (y : Int) k + if inBoxB (tileB (W : Int) (H : Int) (k : Int)).x0 (tileB (W : Int) (H : Int) (k : Int)).y0 (tileB (W : Int) (H : Int) (k : Int)).x1 (tileB (W : Int) (H : Int) (k : Int)).y1 (x : Int) (y : Int) = true then 1 else 0 from rfl)
    have hempty := hide (show tileB (W : Int) (H : Int) (M : Int) = B4.none from tile_no (by rw [hM]; simp only [inB, Bool.and_eq_false_iff, decide_eq_false_iff_not]; right; omega))
    clear EC EB EO iW iH wW wH
    go_upto_region 6 with fail
    clear c0 c1 t0 t1 m0 m1 v0 v1 hW hH OP
    go_wp2_with fail
    go_fit (unhide EC1 _)
    rintro r w4 ⟨rfl, hb⟩
    replace HB := hide (below_two (unhide HB) hb)
    clear hb EC1
    go_upto_region 8 with fail
    go_loopw [7] (fun yv u => ∃ y : Nat, y ≤ H ∧ yv = .int .i64 (y : Int) ∧ Hid (Below w.heap.size w u)) (fun yv _ => H - (intOf yv).toNat)
    case atStart => exact ⟨0, Nat.zero_le _, rfl, HB⟩
    case round =>
      clear HB
      obtain ⟨y, hy, rfl, HB⟩ := hrel
      by_cases hyl : y < H
      · have hyi : (y : Int) < (H : Int) := by omega
        go_upto_region 11 with fail
        go_loopw [8] (fun xv u => ∃ x : Nat, x ≤ W ∧ xv = .int .i64 (x : Int) ∧ Hid (Below w.heap.size w u)) (fun xv _ => W - (intOf xv).toNat)
        case atStart => exact ⟨0, Nat.zero_le _, rfl, HB⟩
        case round =>
          clear HB
          obtain ⟨x, hx, rfl, HB⟩ := hrel
          by_cases hxl : x < W
          · have hxi : (x : Int) < (W : Int) := by omega
            have h1 := hide (unhide hone x y hxl hyl)
            have hd := hide (unhide hhd x y)
            have h0 := hide (unhide hh0 x y)
            have hs := hide (unhide hhs x y)
            generalize hitN (W : Int) (H : Int) (x : Int) (y : Int) = ht at h1 hd h0 hs
            go_upto_region 15 with fail
            go_loopw [9, 10] (fun hv iv u => ∃ k : Nat, k ≤ M ∧ iv = .int .i64 (k : Int) ∧ hv = .int .i64 (ht k) ∧ Hid (Below w.heap.size w u)) (fun _ iv _ => M - (intOf iv).toNat)
            case atStart => exact ⟨0, Nat.zero_le _, rfl, by rw [← unhide h0], HB⟩
            case round =>
              clear HB
              obtain ⟨k, hk, rfl, rfl, HB⟩ := hrel
              by_cases hkl : k < M
              · have hki : (k : Int) < (M : Int) := by omega
                have EBk := hide (unhide EB1 k (by omega))
                have hsk := hide (unhide hs k)
                have hdk := unhide hd k
                generalize tileB (W : Int) (H : Int) (k : Int) = B at EBk hsk
                have EI := hide (fun u => specInBox_any B.x0 B.y0 B.x1 B.y1 (x : Int) (y : Int) u)
                have hw9 : IntKind.i64.wrap (ht k + 1) = ht k + 1 := IntWalk.i64_in _ (by omega)
                generalize inBoxB B.x0 B.y0 B.x1 B.y1 (x : Int) (y : Int) = bb at EI hsk
                go_wp2_with fail
                go_fit (unhide EBk _)
                rintro r w5 ⟨rfl, hb⟩
                replace HB := hide (below_two (unhide HB) hb)
                clear hb EBk
                go_wp2_with fail
                go_fit (unhide EI _)
                rintro r w6 ⟨rfl, hb⟩
                replace HB := hide (below_two (unhide HB) hb)
                clear hb EI
                cases bb with
                | true =>
                  have hn := hide (show ht (k + 1) = ht k + 1 by rw [unhide hsk, if_pos rfl])
                  go_wp2_with fail
                  go_roundw
                  case rel => exact ⟨k + 1, by omega, by go_num, by rw [unhide hn], HB⟩
                  case measure => simp [intOf]; omega
                | false =>
                  have hn := hide (show ht (k + 1) = ht k by rw [unhide hsk, if_neg Bool.false_ne_true, Int.add_zero])
                  go_wp2_with fail
                  go_roundw
                  case rel => exact ⟨k + 1, by omega, by go_num, by rw [unhide hn], HB⟩
                  case measure => simp [intOf]; omega
              · have hke : k = M := by omega
                subst hke
                have hki : ¬ (k : Int) < (k : Int) := by omega
                rw [unhide h1]
                go_wp2_with fail
                go_roundw
                case rel => exact ⟨x + 1, by omega, by go_num, HB⟩
                case measure => simp [intOf]; omega
          · have hxe : x = W := by omega
            subst hxe
            have hxi : ¬ (x : Int) < (x : Int) := by omega
            go_wp2_with fail
            go_roundw
            case rel => exact ⟨y + 1, by omega, by go_num, HB⟩
            case measure => simp [intOf]; omega
      · have hye : y = H := by omega
        subst hye
        have hyi : ¬ (y : Int) < (y : Int) := by omega
        clear hone hhd hh0 hhs
        go_wp2_with fail
        go_fit (drawBoxes_any a0 len0 cap0 _ hl ((unhide HI).next (unhide HB)))
        rintro e w5 ⟨ax, ay, bx, by', cx, cy, dx, dy, qx, qy, _, _, _, rfl, hb⟩
        replace HB := hide (below_two (unhide HB) hb)
        clear hb
        obtain ⟨PA, hPA⟩ : ∃ P : B4, P = ⟨ax, ay, bx, by'⟩ := ⟨_, rfl⟩
        obtain ⟨PB, hPB⟩ : ∃ P : B4, P = ⟨cx, cy, dx, dy⟩ := ⟨_, rfl⟩
        obtain rfl : ax = PA.x0 := by rw [hPA]
        obtain rfl : ay = PA.y0 := by rw [hPA]
        obtain rfl : bx = PA.x1 := by rw [hPA]
        obtain rfl : by' = PA.y1 := by rw [hPA]
        obtain rfl : cx = PB.x0 := by rw [hPB]
        obtain rfl : cy = PB.y0 := by rw [hPB]
        obtain rfl : dx = PB.x1 := by rw [hPB]
        obtain rfl : dy = PB.y1 := by rw [hPB]
        clear hPA hPB
        go_upto_region 22 with fail
        have R11 := al3_0 w5 (.cells #[.int .i64 PA.x0, .int .i64 PA.y0, .int .i64 PA.x1, .int .i64 PA.y1] 25) (.cells #[.int .i64 PB.x0, .int .i64 PB.y0, .int .i64 PB.x1, .int .i64 PB.y1] 25) (.cells #[.int .i64 qx, .int .i64 qy] 45)
        have R12 := al3_1 w5 (.cells #[.int .i64 PA.x0, .int .i64 PA.y0, .int .i64 PA.x1, .int .i64 PA.y1] 25) (.cells #[.int .i64 PB.x0, .int .i64 PB.y0, .int .i64 PB.x1, .int .i64 PB.y1] 25) (.cells #[.int .i64 qx, .int .i64 qy] 45)
        have hba := al3_below w5 (.cells #[.int .i64 PA.x0, .int .i64 PA.y0, .int .i64 PA.x1, .int .i64 PA.y1] 25) (.cells #[.int .i64 PB.x0, .int .i64 PB.y0, .int .i64 PB.x1, .int .i64 PB.y1] 25) (.cells #[.int .i64 qx, .int .i64 qy] 45)
        replace HB := hide (below_two (unhide HB) hba)
        clear hba
        generalize ((w5.alloc (.cells #[.int .i64 PA.x0, .int .i64 PA.y0, .int .i64 PA.x1, .int .i64 PA.y1] 25)).alloc (.cells #[.int .i64 PB.x0, .int .i64 PB.y0, .int .i64 PB.x1, .int .i64 PB.y1] 25)).alloc (.cells #[.int .i64 qx, .int .i64 qy] 45) = V at R11 R12 HB ⊢
        generalize w5.heap.size = b11 at R11 R12 ⊢
        obtain ⟨G, hG0, hG1⟩ : ∃ G : Nat → B4, G 0 = PA ∧ G 1 = PB := ⟨fun i => if i = 0 then PA else PB, rfl, rfl⟩
        have RN := hide (fun i (hi : i < 2) => show RnAt (V.alloc (.cells #[.int .i64 PA.x0, .int .i64 PA.y0, .int .i64 PA.x1, .int .i64 PA.y1, .int .i64 PB.x0, .int .i64 PB.y0, .int .i64 PB.x1, .int .i64 PB.y1] 25)) (some ⟨V.heap.size, 0, none⟩) i (G i) by
          have hr := al1_0 V (.cells #[.int .i64 PA.x0, .int .i64 PA.y0, .int .i64 PA.x1, .int .i64 PA.y1, .int .i64 PB.x0, .int .i64 PB.y0, .int .i64 PB.x1, .int .i64 PB.y1] 25)
          have hi2 : i = 0 ∨ i = 1 := by omega
          rcases hi2 with rfl | rfl
          · rw [hG0]; exact ⟨_, _, rfl, cell_of_row _ _ _ _ _ _ hr, cell_of_row _ _ _ _ _ _ hr, cell_of_row _ _ _ _ _ _ hr, cell_of_row _ _ _ _ _ _ hr⟩
          · rw [hG1]; exact ⟨_, _, rfl, cell_of_row _ _ _ _ _ _ hr, cell_of_row _ _ _ _ _ _ hr, cell_of_row _ _ _ _ _ _ hr, cell_of_row _ _ _ _ _ _ hr⟩)
        have hba := al1_below V (.cells #[.int .i64 PA.x0, .int .i64 PA.y0, .int .i64 PA.x1, .int .i64 PA.y1, .int .i64 PB.x0, .int .i64 PB.y0, .int .i64 PB.x1, .int .i64 PB.y1] 25)
        obtain ⟨r0, r1, r2, r3⟩ := row4 R11
        obtain ⟨s0, s1, s2, s3⟩ := row4 R12
        have EOg := hide (unhide EO1 G (some ⟨V.heap.size, 0, none⟩) 2 2 (by decide) (Nat.le_refl _) _ (unhide RN))
        have hany := hide (fun (B : B4) => show anyM B G 2 = (!(meetBB B PA).bare || !(meetBB B PB).bare) by simp only [anyM, hG0, hG1, Bool.false_or])
        have hmem := hide (fun (i : Nat) (hi : i < M) => show (∃ j, j < (tilesA (W : Int) (y : Int) G 2).length ∧ listZ (tilesA (W : Int) (y : Int) G 2) j = (i : Int)) ↔ anyM (tileB (W : Int) (y : Int) (i : Int)) G 2 = true by
          rw [← mem_at]
          unfold tilesA
          rw [tilesL_mem, hM, Int.toNat_natCast]
          constructor
          · rintro ⟨i', h1, h2, h3⟩
            have : i = i' := by omega
            rw [this]; exact h3
          · intro h; exact ⟨i, hi, rfl, h⟩)
        have hasc := hide (fun (j : Nat) (hj : j + 1 < (tilesA (W : Int) (y : Int) G 2).length) => show listZ (tilesA (W : Int) (y : Int) G 2) j < listZ (tilesA (W : Int) (y : Int) G 2) (j + 1) from asc_at (tilesL_asc (W : Int) (y : Int) G 2 _) hj)
        have hlen := hide (show (tilesA (W : Int) (y : Int) G 2).length ≤ 9 from Nat.le_trans (tiles_le _ _ G 2 _) (by rw [hM]; omega))
        have hnil := hide (show (tilesA (W : Int) (y : Int) G 0).length = 0 by unfold tilesA; rw [tiles_none]; rfl)
        generalize tilesA (W : Int) (y : Int) G 2 = L at EOg hmem hasc hlen
        clear RN hG0 hG1
        go_wp2_with fail
        go_fit (unhide EOg)
        rintro r w6 ⟨pl, cpl, rfl, hLV, hb⟩
        replace R11 := hide (row_next hb (row_next hba R11))
        replace R12 := hide (row_next hb (row_next hba R12))
        replace HB := hide (below_two (below_two (unhide HB) hba) hb)
        have LV := hide hLV
        clear hb hba hLV EOg r0 r1 r2 r3 s0 s1 s2 s3
        generalize V.heap.size + 1 = bl at LV
        generalize (V.alloc (.cells #[.int .i64 PA.x0, .int .i64 PA.y0, .int .i64 PA.x1, .int .i64 PA.y1, .int .i64 PB.x0, .int .i64 PB.y0, .int .i64 PB.x1, .int .i64 PB.y1] 25)).heap.size = bl at LV
        have hlen' := unhide hlen
        go_upto_region 24 with fail
        go_loopw [15] (fun iv u => ∃ i : Nat, i ≤ M ∧ iv = .int .i64 (i : Int) ∧ Hid (u.heap[b11]? = some (.cells #[.int .i64 PA.x0, .int .i64 PA.y0, .int .i64 PA.x1, .int .i64 PA.y1] 25 (0, 0))) ∧ Hid (u.heap[b11 + 1]? = some (.cells #[.int .i64 PB.x0, .int .i64 PB.y0, .int .i64 PB.x1, .int .i64 PB.y1] 25 (0, 0))) ∧ Hid (IdV u bl (.slice pl L.length cpl) L.length (listZ L)) ∧ Hid (Below w.heap.size w u)) (fun iv _ => M - (intOf iv).toNat)
        case atStart => exact ⟨0, Nat.zero_le _, rfl, R11, R12, LV, HB⟩
        case round =>
          clear R11 R12 LV HB
          obtain ⟨i, hi, rfl, R11, R12, LV, HB⟩ := hrel
          by_cases hil : i < M
          · have hii : (i : Int) < (M : Int) := by omega
            have EBk := hide (unhide EB1 i (by omega))
            have hmi := unhide hmem i hil
            obtain ⟨B, hB⟩ : ∃ B, Hid (tileB (W : Int) (y : Int) (i : Int) = B) := ⟨_, rfl⟩
            rw [unhide hB] at EBk hmi
            rw [unhide hany] at hmi
            go_wp2_with fail
            go_fit (unhide EBk _)
            rintro r w7 ⟨rfl, hb⟩
            replace R11 := hide (row_next hb (unhide R11))
            replace R12 := hide (row_next hb (unhide R12))
            replace LV := hide ((unhide LV).next hb)
            replace HB := hide (below_two (unhide HB) hb)
            clear hb EBk hB
            go_upto_region 27 with fail
            have R16 := hide (new_row w7 (.cells #[.int .i64 B.x0, .int .i64 B.y0, .int .i64 B.x1, .int .i64 B.y1] 25))
            have hal := al1_below w7 (.cells #[.int .i64 B.x0, .int .i64 B.y0, .int .i64 B.x1, .int .i64 B.y1] 25)
            replace R11 := hide (row_next hal (unhide R11))
            replace R12 := hide (row_next hal (unhide R12))
            replace LV := hide ((unhide LV).next hal)
            replace HB := hide (below_two (unhide HB) hal)
            clear hal
            generalize w7.alloc (.cells #[.int .i64 B.x0, .int .i64 B.y0, .int .i64 B.x1, .int .i64 B.y1] 25) = Y at R16 R11 R12 LV HB ⊢
            generalize w7.heap.size = b16 at R16 ⊢
            have hS := hide (fun u (hu : Below Y.heap.size Y u) => show Hid (Below Y.heap.size Y u) ∧ u.cell? ⟨b16, 0, none⟩ = some (.int .i64 B.x0) ∧ u.cell? ⟨b16, 1, none⟩ = some (.int .i64 B.y0) ∧ u.cell? ⟨b16, 2, none⟩ = some (.int .i64 B.x1) ∧ u.cell? ⟨b16, 3, none⟩ = some (.int .i64 B.y1) ∧ u.cell? ⟨b11, 0, none⟩ = some (.int .i64 PA.x0) ∧ u.cell? ⟨b11, 1, none⟩ = some (.int .i64 PA.y0) ∧ u.cell? ⟨b11, 2, none⟩ = some (.int .i64 PA.x1) ∧ u.cell? ⟨b11, 3, none⟩ = some (.int .i64 PA.y1) ∧ u.cell? ⟨b11 + 1, 0, none⟩ = some (.int .i64 PB.x0) ∧ u.cell? ⟨b11 + 1, 1, none⟩ = some (.int .i64 PB.y0) ∧ u.cell? ⟨b11 + 1, 2, none⟩ = some (.int .i64 PB.x1) ∧ u.cell? ⟨b11 + 1, 3, none⟩ = some (.int .i64 PB.y1) by
              obtain ⟨a0, a1, a2, a3⟩ := row4 (row_next hu (unhide R16))
              obtain ⟨c0, c1, c2, c3⟩ := row4 (row_next hu (unhide R11))
              obtain ⟨d0, d1, d2, d3⟩ := row4 (row_next hu (unhide R12))
              exact ⟨hu, a0, a1, a2, a3, c0, c1, c2, c3, d0, d1, d2, d3⟩)
            have EMA := hide (fun u => show Calls Try.prog 27 #[.agg #[.int .i64 B.x0, .int .i64 B.y0, .int .i64 B.x1, .int .i64 B.y1], .agg #[.int .i64 PA.x0, .int .i64 PA.y0, .int .i64 PA.x1, .int .i64 PA.y1]] u (fun r w' => r = .returned (.agg #[.int .i64 ((meetBB B PA).x0), .int .i64 ((meetBB B PA).y0), .int .i64 ((meetBB B PA).x1), .int .i64 ((meetBB B PA).y1)]) ∧ Below u.heap.size u w') from specMeetBox_any _ _ _ _ _ _ _ _ u)
            have EMB := hide (fun u => show Calls Try.prog 27 #[.agg #[.int .i64 B.x0, .int .i64 B.y0, .int .i64 B.x1, .int .i64 B.y1], .agg #[.int .i64 PB.x0, .int .i64 PB.y0, .int .i64 PB.x1, .int .i64 PB.y1]] u (fun r w' => r = .returned (.agg #[.int .i64 ((meetBB B PB).x0), .int .i64 ((meetBB B PB).y0), .int .i64 ((meetBB B PB).x1), .int .i64 ((meetBB B PB).y1)]) ∧ Below u.heap.size u w') from specMeetBox_any _ _ _ _ _ _ _ _ u)
            generalize meetBB B PA = MA at EMA hmi
            generalize meetBB B PB = MB at EMB hmi
            have EEA := hide (fun u => show Calls Try.prog 26 #[.agg #[.int .i64 MA.x0, .int .i64 MA.y0, .int .i64 MA.x1, .int .i64 MA.y1]] u (fun r w' => r = .returned (.bool MA.bare) ∧ Below u.heap.size u w') from specEmpty_any _ _ _ _ u)
            have EEB := hide (fun u => show Calls Try.prog 26 #[.agg #[.int .i64 MB.x0, .int .i64 MB.y0, .int .i64 MB.x1, .int .i64 MB.y1]] u (fun r w' => r = .returned (.bool MB.bare) ∧ Below u.heap.size u w') from specEmpty_any _ _ _ _ u)
            generalize MA.bare = bA at EEA hmi
            generalize MB.bare = bB at EEB hmi
            have EIN := hide (fun u (hu : Below Y.heap.size Y u) => in_is (!bA || !bB) (listZ L) pl L.length cpl (by omega) (i : Int) hmi.symm u ((unhide LV).next hu).at)
            clear hmi
            cases bA with
            | false =>
              have ez : (!false || !bB) = true := rfl
              rw [ez] at EIN
              clear ez EMB EEB
              refine wp_region_held_drew (S := (fun u => Hid (Below Y.heap.size Y u) ∧ u.cell? ⟨b16, 0, none⟩ = some (.int .i64 B.x0) ∧ u.cell? ⟨b16, 1, none⟩ = some (.int .i64 B.y0) ∧ u.cell? ⟨b16, 2, none⟩ = some (.int .i64 B.x1) ∧ u.cell? ⟨b16, 3, none⟩ = some (.int .i64 B.y1) ∧ u.cell? ⟨b11, 0, none⟩ = some (.int .i64 PA.x0) ∧ u.cell? ⟨b11, 1, none⟩ = some (.int .i64 PA.y0) ∧ u.cell? ⟨b11, 2, none⟩ = some (.int .i64 PA.x1) ∧ u.cell? ⟨b11, 3, none⟩ = some (.int .i64 PA.y1) ∧ u.cell? ⟨b11 + 1, 0, none⟩ = some (.int .i64 PB.x0) ∧ u.cell? ⟨b11 + 1, 1, none⟩ = some (.int .i64 PB.y0) ∧ u.cell? ⟨b11 + 1, 2, none⟩ = some (.int .i64 PB.x1) ∧ u.cell? ⟨b11 + 1, 3, none⟩ = some (.int .i64 PB.y1))) (by kernel_rfl) ?_ (fun hHeld => ?_)
              · exact unhide hS _ (Below.refl _ _).drew
              refine wpAnyH_take (i := 0) (oi := { dst := some 83, op := Op.move (Operand.tmp 14), type := 31, pos := "laws.go:941", after := #[], guard := none }) (v := ?_) rfl (by kernel_rfl) (by kernel_rfl) (by kernel_rfl) (fun _ _ _ h => h) (Or.inl ⟨by rfl, ?_⟩) (by assumption) ?_
              rotate_left
              · intro w hSw; (try dsimp only at hSw); go_simp <;> with_reducible rfl
              try simp only [Act.put, List.setIfInBounds_toArray, List.set_cons_zero, List.set_cons_succ]
              refine wpAnyH_take (i := 1) (oi := { dst := some 84, op := Op.move (Operand.tmp 15), type := 3, pos := "laws.go:941", after := #[], guard := none }) (v := ?_) rfl (by kernel_rfl) (by kernel_rfl) (by kernel_rfl) (fun _ _ _ h => h) (Or.inl ⟨by rfl, ?_⟩) (by assumption) ?_
              rotate_left
              · intro w hSw; (try dsimp only at hSw); go_simp <;> with_reducible rfl
              try simp only [Act.put, List.setIfInBounds_toArray, List.set_cons_zero, List.set_cons_succ]
              refine wpAnyH_take (i := 3) (oi := { dst := some 86, op := Op.load 25 (Operand.tmp 16), type := 25, pos := "laws.go:941", after := #[], guard := none }) (v := ?_) rfl (by kernel_rfl) (by kernel_rfl) (by kernel_rfl) (fun _ _ _ h => h) (Or.inl ⟨by rfl, ?_⟩) (by assumption) ?_
              rotate_left
              · intro w hSw; (try dsimp only at hSw); go_simp <;> with_reducible rfl
              try simp only [Act.put, List.setIfInBounds_toArray, List.set_cons_zero, List.set_cons_succ]
              refine wpAnyH_take (i := 4) (oi := { dst := some 87, op := Op.load 25 (Operand.tmp 11), type := 25, pos := "laws.go:941", after := #[], guard := none }) (v := ?_) rfl (by kernel_rfl) (by kernel_rfl) (by kernel_rfl) (fun _ _ _ h => h) (Or.inl ⟨by rfl, ?_⟩) (by assumption) ?_
              rotate_left
              · intro w hSw; (try dsimp only at hSw); go_simp <;> with_reducible rfl
              try simp only [Act.put, List.setIfInBounds_toArray, List.set_cons_zero, List.set_cons_succ]
              refine wpAnyH_ready (rs := [2]) (by kernel_rfl) (by simp) ?_
              refine AllReadyH.cons (o := { dst := some 85, op := Op.call { callee := Callee.value (Operand.func 25), args := #[Operand.tmp 83, Operand.tmp 84], argTypes := #[31, 3] }, type := 4, pos := "laws.go:941", after := #[{ on := 0, ground := Ground.data }, { on := 1, ground := Ground.data }], guard := none }) rfl (fun K hK => ?_) AllReadyH.nil
              go_simp
              (go_at_call 25; go_fit (unhide EIN _ (unhide hHeld.1)); rintro r v1 ⟨rfl, hb⟩)
              have hH := hide (below_two (unhide hHeld.1) hb)
              have sn := unhide hS _ (unhide hH)
              clear hb
              refine hK.out _ _ ?_ (fun hHeld => ?_)
              · with_reducible exact sn
              clear hK K
              try simp only [Act.put, List.setIfInBounds_toArray, List.set_cons_zero, List.set_cons_succ]
              clear sn
              replace hH := hHeld.1
              refine wpAnyH_ready (rs := [5]) (by kernel_rfl) (by simp) ?_
              refine AllReadyH.cons (o := { dst := some 88, op := Op.call { callee := Callee.value (Operand.func 27), args := #[Operand.tmp 86, Operand.tmp 87], argTypes := #[25, 25] }, type := 25, pos := "laws.go:941", after := #[{ on := 3, ground := Ground.data }, { on := 4, ground := Ground.data }, { on := 2, ground := Ground.chain }], guard := none }) rfl (fun K hK => ?_) AllReadyH.nil
              go_simp
              (go_at_call 27; go_fit (unhide EMA _); rintro r v2 ⟨rfl, hb⟩)
              have hH := hide (below_two (unhide hHeld.1) hb)
              have sn := unhide hS _ (unhide hH)
              clear hb
              refine hK.out _ _ ?_ (fun hHeld => ?_)
              · with_reducible exact sn
              clear hK K
              try simp only [Act.put, List.setIfInBounds_toArray, List.set_cons_zero, List.set_cons_succ]
              clear sn
              replace hH := hHeld.1
              refine wpAnyH_ready (rs := [6]) (by kernel_rfl) (by simp) ?_
              refine AllReadyH.cons (o := { dst := some 89, op := Op.call { callee := Callee.value (Operand.func 26), args := #[Operand.tmp 88], argTypes := #[25] }, type := 4, pos := "laws.go:941", after := #[{ on := 5, ground := Ground.data }, { on := 5, ground := Ground.chain }], guard := none }) rfl (fun K hK => ?_) AllReadyH.nil
              go_simp
              (go_at_call 26; go_fit (unhide EEA _); rintro r v3 ⟨rfl, hb⟩)
              have hH := hide (below_two (unhide hHeld.1) hb)
              have sn := unhide hS _ (unhide hH)
              clear hb
              refine hK.out _ _ ?_ (fun hHeld => ?_)
              · with_reducible exact sn
              clear hK K
              try simp only [Act.put, List.setIfInBounds_toArray, List.set_cons_zero, List.set_cons_succ]
              clear sn
              replace hH := hHeld.1
              refine wpAnyH_take (i := 7) (oi := { dst := some 90, op := Op.unOp UnOp.not 4 (Operand.tmp 89), type := 4, pos := "laws.go:941", after := #[{ on := 6, ground := Ground.data }], guard := none }) (v := ?_) rfl (by kernel_rfl) (by kernel_rfl) (by kernel_rfl) (fun _ _ _ h => h) (Or.inl ⟨by rfl, ?_⟩) (by assumption) ?_
              rotate_left
              · intro w hSw; (try dsimp only at hSw); go_simp <;> with_reducible rfl
              try simp only [Act.put, List.setIfInBounds_toArray, List.set_cons_zero, List.set_cons_succ]
              refine wpAnyH_take (i := 8) (oi := { dst := some 91, op := Op.move (Operand.tmp 90), type := 4, pos := "laws.go:941", after := #[{ on := 7, ground := Ground.data }, { on := 6, ground := Ground.chain }], guard := none }) (v := ?_) rfl (by kernel_rfl) (by kernel_rfl) (by kernel_rfl) (fun _ _ _ h => h) (Or.inl ⟨by rfl, ?_⟩) (by assumption) ?_
              rotate_left
              · intro w hSw; (try dsimp only at hSw); go_simp <;> with_reducible rfl
              try simp only [Act.put, List.setIfInBounds_toArray, List.set_cons_zero, List.set_cons_succ]
              refine wpAnyH_take (i := 9) (oi := { dst := some 92, op := Op.load 25 (Operand.tmp 16), type := 25, pos := "laws.go:941", after := #[{ on := 8, ground := Ground.guard }], guard := some (8, false) }) (v := undef) rfl (by kernel_rfl) (by kernel_rfl) (by kernel_rfl) (fun _ _ _ h => h) (Or.inr ⟨by rfl, rfl⟩) (by assumption) ?_
              try simp only [Act.put, List.setIfInBounds_toArray, List.set_cons_zero, List.set_cons_succ]
              refine wpAnyH_take (i := 10) (oi := { dst := some 93, op := Op.load 25 (Operand.tmp 12), type := 25, pos := "laws.go:941", after := #[{ on := 8, ground := Ground.guard }], guard := some (8, false) }) (v := undef) rfl (by kernel_rfl) (by kernel_rfl) (by kernel_rfl) (fun _ _ _ h => h) (Or.inr ⟨by rfl, rfl⟩) (by assumption) ?_
              try simp only [Act.put, List.setIfInBounds_toArray, List.set_cons_zero, List.set_cons_succ]
              refine wpAnyH_take (i := 11) (oi := { dst := some 94, op := Op.call { callee := Callee.value (Operand.func 27), args := #[Operand.tmp 92, Operand.tmp 93], argTypes := #[25, 25] }, type := 25, pos := "laws.go:941", after := #[{ on := 9, ground := Ground.data }, { on := 10, ground := Ground.data }, { on := 8, ground := Ground.chain }, { on := 8, ground := Ground.guard }], guard := some (8, false) }) (v := undef) rfl (by kernel_rfl) (by kernel_rfl) (by kernel_rfl) (fun _ _ _ h => h) (Or.inr ⟨by rfl, rfl⟩) (by assumption) ?_
              try simp only [Act.put, List.setIfInBounds_toArray, List.set_cons_zero, List.set_cons_succ]
              refine wpAnyH_take (i := 12) (oi := { dst := some 95, op := Op.call { callee := Callee.value (Operand.func 26), args := #[Operand.tmp 94], argTypes := #[25] }, type := 4, pos := "laws.go:941", after := #[{ on := 11, ground := Ground.data }, { on := 11, ground := Ground.chain }, { on := 8, ground := Ground.guard }], guard := some (8, false) }) (v := undef) rfl (by kernel_rfl) (by kernel_rfl) (by kernel_rfl) (fun _ _ _ h => h) (Or.inr ⟨by rfl, rfl⟩) (by assumption) ?_
              try simp only [Act.put, List.setIfInBounds_toArray, List.set_cons_zero, List.set_cons_succ]
              refine wpAnyH_take (i := 13) (oi := { dst := some 96, op := Op.unOp UnOp.not 4 (Operand.tmp 95), type := 4, pos := "laws.go:941", after := #[{ on := 12, ground := Ground.data }, { on := 8, ground := Ground.guard }], guard := some (8, false) }) (v := undef) rfl (by kernel_rfl) (by kernel_rfl) (by kernel_rfl) (fun _ _ _ h => h) (Or.inr ⟨by rfl, rfl⟩) (by assumption) ?_
              try simp only [Act.put, List.setIfInBounds_toArray, List.set_cons_zero, List.set_cons_succ]
              refine wpAnyH_take (i := 14) (oi := { dst := some 97, op := Op.pick (Operand.tmp 91) (Operand.const (Value.bool true)) (Operand.tmp 96), type := 4, pos := "laws.go:941", after := #[{ on := 8, ground := Ground.data }, { on := 13, ground := Ground.data }], guard := none }) (v := ?_) rfl (by kernel_rfl) (by kernel_rfl) (by kernel_rfl) (fun _ _ _ h => h) (Or.inl ⟨by rfl, ?_⟩) (by assumption) ?_
              rotate_left
              · intro w hSw; (try dsimp only at hSw); go_simp <;> with_reducible rfl
              try simp only [Act.put, List.setIfInBounds_toArray, List.set_cons_zero, List.set_cons_succ]
              refine wpAnyH_take (i := 15) (oi := { dst := some 98, op := Op.binOp BinOp.neq 4 (Operand.tmp 85) (Operand.tmp 97) 4, type := 4, pos := "laws.go:941", after := #[{ on := 2, ground := Ground.data }, { on := 14, ground := Ground.data }], guard := none }) (v := ?_) rfl (by kernel_rfl) (by kernel_rfl) (by kernel_rfl) (fun _ _ _ h => h) (Or.inl ⟨by rfl, ?_⟩) (by assumption) ?_
              rotate_left
              · intro w hSw; (try dsimp only at hSw); go_simp <;> with_reducible rfl
              try simp only [Act.put, List.setIfInBounds_toArray, List.set_cons_zero, List.set_cons_succ]
              refine wpAnyH_done (by kernel_rfl) ?_ _
              have H9 := hide (unhide hHeld.1)
              clear hHeld
              go_wp2_with fail
              go_roundw
              case rel => exact ⟨i + 1, by omega, by go_num, hide (row_next (unhide H9) (unhide R11)), hide (row_next (unhide H9) (unhide R12)), hide ((unhide LV).next (unhide H9)), hide (below_two (unhide HB) (unhide H9))⟩
              case measure => simp [intOf]; omega
            | true =>
              cases bB with
              | false =>
                have ez : (!true || !false) = true := rfl
                rw [ez] at EIN
                clear ez
                refine wp_region_held_drew (S := (fun u => Hid (Below Y.heap.size Y u) ∧ u.cell? ⟨b16, 0, none⟩ = some (.int .i64 B.x0) ∧ u.cell? ⟨b16, 1, none⟩ = some (.int .i64 B.y0) ∧ u.cell? ⟨b16, 2, none⟩ = some (.int .i64 B.x1) ∧ u.cell? ⟨b16, 3, none⟩ = some (.int .i64 B.y1) ∧ u.cell? ⟨b11, 0, none⟩ = some (.int .i64 PA.x0) ∧ u.cell? ⟨b11, 1, none⟩ = some (.int .i64 PA.y0) ∧ u.cell? ⟨b11, 2, none⟩ = some (.int .i64 PA.x1) ∧ u.cell? ⟨b11, 3, none⟩ = some (.int .i64 PA.y1) ∧ u.cell? ⟨b11 + 1, 0, none⟩ = some (.int .i64 PB.x0) ∧ u.cell? ⟨b11 + 1, 1, none⟩ = some (.int .i64 PB.y0) ∧ u.cell? ⟨b11 + 1, 2, none⟩ = some (.int .i64 PB.x1) ∧ u.cell? ⟨b11 + 1, 3, none⟩ = some (.int .i64 PB.y1))) (by kernel_rfl) ?_ (fun hHeld => ?_)
                · exact unhide hS _ (Below.refl _ _).drew
                refine wpAnyH_take (i := 0) (oi := { dst := some 83, op := Op.move (Operand.tmp 14), type := 31, pos := "laws.go:941", after := #[], guard := none }) (v := ?_) rfl (by kernel_rfl) (by kernel_rfl) (by kernel_rfl) (fun _ _ _ h => h) (Or.inl ⟨by rfl, ?_⟩) (by assumption) ?_
                rotate_left
                · intro w hSw; (try dsimp only at hSw); go_simp <;> with_reducible rfl
                try simp only [Act.put, List.setIfInBounds_toArray, List.set_cons_zero, List.set_cons_succ]
                refine wpAnyH_take (i := 1) (oi := { dst := some 84, op := Op.move (Operand.tmp 15), type := 3, pos := "laws.go:941", after := #[], guard := none }) (v := ?_) rfl (by kernel_rfl) (by kernel_rfl) (by kernel_rfl) (fun _ _ _ h => h) (Or.inl ⟨by rfl, ?_⟩) (by assumption) ?_
                rotate_left
                · intro w hSw; (try dsimp only at hSw); go_simp <;> with_reducible rfl
                try simp only [Act.put, List.setIfInBounds_toArray, List.set_cons_zero, List.set_cons_succ]
                refine wpAnyH_take (i := 3) (oi := { dst := some 86, op := Op.load 25 (Operand.tmp 16), type := 25, pos := "laws.go:941", after := #[], guard := none }) (v := ?_) rfl (by kernel_rfl) (by kernel_rfl) (by kernel_rfl) (fun _ _ _ h => h) (Or.inl ⟨by rfl, ?_⟩) (by assumption) ?_
                rotate_left
                · intro w hSw; (try dsimp only at hSw); go_simp <;> with_reducible rfl
                try simp only [Act.put, List.setIfInBounds_toArray, List.set_cons_zero, List.set_cons_succ]
                refine wpAnyH_take (i := 4) (oi := { dst := some 87, op := Op.load 25 (Operand.tmp 11), type := 25, pos := "laws.go:941", after := #[], guard := none }) (v := ?_) rfl (by kernel_rfl) (by kernel_rfl) (by kernel_rfl) (fun _ _ _ h => h) (Or.inl ⟨by rfl, ?_⟩) (by assumption) ?_
                rotate_left
                · intro w hSw; (try dsimp only at hSw); go_simp <;> with_reducible rfl
                try simp only [Act.put, List.setIfInBounds_toArray, List.set_cons_zero, List.set_cons_succ]
                refine wpAnyH_ready (rs := [2]) (by kernel_rfl) (by simp) ?_
                refine AllReadyH.cons (o := { dst := some 85, op := Op.call { callee := Callee.value (Operand.func 25), args := #[Operand.tmp 83, Operand.tmp 84], argTypes := #[31, 3] }, type := 4, pos := "laws.go:941", after := #[{ on := 0, ground := Ground.data }, { on := 1, ground := Ground.data }], guard := none }) rfl (fun K hK => ?_) AllReadyH.nil
                go_simp
                (go_at_call 25; go_fit (unhide EIN _ (unhide hHeld.1)); rintro r v1 ⟨rfl, hb⟩)
                have hH := hide (below_two (unhide hHeld.1) hb)
                have sn := unhide hS _ (unhide hH)
                clear hb
                refine hK.out _ _ ?_ (fun hHeld => ?_)
                · with_reducible exact sn
                clear hK K
                try simp only [Act.put, List.setIfInBounds_toArray, List.set_cons_zero, List.set_cons_succ]
                clear sn
                replace hH := hHeld.1
                refine wpAnyH_ready (rs := [5]) (by kernel_rfl) (by simp) ?_
                refine AllReadyH.cons (o := { dst := some 88, op := Op.call { callee := Callee.value (Operand.func 27), args := #[Operand.tmp 86, Operand.tmp 87], argTypes := #[25, 25] }, type := 25, pos := "laws.go:941", after := #[{ on := 3, ground := Ground.data }, { on := 4, ground := Ground.data }, { on := 2, ground := Ground.chain }], guard := none }) rfl (fun K hK => ?_) AllReadyH.nil
                go_simp
                (go_at_call 27; go_fit (unhide EMA _); rintro r v2 ⟨rfl, hb⟩)
                have hH := hide (below_two (unhide hHeld.1) hb)
                have sn := unhide hS _ (unhide hH)
                clear hb
                refine hK.out _ _ ?_ (fun hHeld => ?_)
                · with_reducible exact sn
                clear hK K
                try simp only [Act.put, List.setIfInBounds_toArray, List.set_cons_zero, List.set_cons_succ]
                clear sn
                replace hH := hHeld.1
                refine wpAnyH_ready (rs := [6]) (by kernel_rfl) (by simp) ?_
                refine AllReadyH.cons (o := { dst := some 89, op := Op.call { callee := Callee.value (Operand.func 26), args := #[Operand.tmp 88], argTypes := #[25] }, type := 4, pos := "laws.go:941", after := #[{ on := 5, ground := Ground.data }, { on := 5, ground := Ground.chain }], guard := none }) rfl (fun K hK => ?_) AllReadyH.nil
                go_simp
                (go_at_call 26; go_fit (unhide EEA _); rintro r v3 ⟨rfl, hb⟩)
                have hH := hide (below_two (unhide hHeld.1) hb)
                have sn := unhide hS _ (unhide hH)
                clear hb
                refine hK.out _ _ ?_ (fun hHeld => ?_)
                · with_reducible exact sn
                clear hK K
                try simp only [Act.put, List.setIfInBounds_toArray, List.set_cons_zero, List.set_cons_succ]
                clear sn
                replace hH := hHeld.1
                refine wpAnyH_take (i := 7) (oi := { dst := some 90, op := Op.unOp UnOp.not 4 (Operand.tmp 89), type := 4, pos := "laws.go:941", after := #[{ on := 6, ground := Ground.data }], guard := none }) (v := ?_) rfl (by kernel_rfl) (by kernel_rfl) (by kernel_rfl) (fun _ _ _ h => h) (Or.inl ⟨by rfl, ?_⟩) (by assumption) ?_
                rotate_left
                · intro w hSw; (try dsimp only at hSw); go_simp <;> with_reducible rfl
                try simp only [Act.put, List.setIfInBounds_toArray, List.set_cons_zero, List.set_cons_succ]
                refine wpAnyH_take (i := 8) (oi := { dst := some 91, op := Op.move (Operand.tmp 90), type := 4, pos := "laws.go:941", after := #[{ on := 7, ground := Ground.data }, { on := 6, ground := Ground.chain }], guard := none }) (v := ?_) rfl (by kernel_rfl) (by kernel_rfl) (by kernel_rfl) (fun _ _ _ h => h) (Or.inl ⟨by rfl, ?_⟩) (by assumption) ?_
                rotate_left
                · intro w hSw; (try dsimp only at hSw); go_simp <;> with_reducible rfl
                try simp only [Act.put, List.setIfInBounds_toArray, List.set_cons_zero, List.set_cons_succ]
                refine wpAnyH_take (i := 9) (oi := { dst := some 92, op := Op.load 25 (Operand.tmp 16), type := 25, pos := "laws.go:941", after := #[{ on := 8, ground := Ground.guard }], guard := some (8, false) }) (v := ?_) rfl (by kernel_rfl) (by kernel_rfl) (by kernel_rfl) (fun _ _ _ h => h) (Or.inl ⟨by rfl, ?_⟩) (by assumption) ?_
                rotate_left
                · intro w hSw; (try dsimp only at hSw); go_simp <;> with_reducible rfl
                try simp only [Act.put, List.setIfInBounds_toArray, List.set_cons_zero, List.set_cons_succ]
                refine wpAnyH_take (i := 10) (oi := { dst := some 93, op := Op.load 25 (Operand.tmp 12), type := 25, pos := "laws.go:941", after := #[{ on := 8, ground := Ground.guard }], guard := some (8, false) }) (v := ?_) rfl (by kernel_rfl) (by kernel_rfl) (by kernel_rfl) (fun _ _ _ h => h) (Or.inl ⟨by rfl, ?_⟩) (by assumption) ?_
                rotate_left
                · intro w hSw; (try dsimp only at hSw); go_simp <;> with_reducible rfl
                try simp only [Act.put, List.setIfInBounds_toArray, List.set_cons_zero, List.set_cons_succ]
                refine wpAnyH_ready (rs := [11]) (by kernel_rfl) (by simp) ?_
                refine AllReadyH.cons (o := { dst := some 94, op := Op.call { callee := Callee.value (Operand.func 27), args := #[Operand.tmp 92, Operand.tmp 93], argTypes := #[25, 25] }, type := 25, pos := "laws.go:941", after := #[{ on := 9, ground := Ground.data }, { on := 10, ground := Ground.data }, { on := 8, ground := Ground.chain }, { on := 8, ground := Ground.guard }], guard := some (8, false) }) rfl (fun K hK => ?_) AllReadyH.nil
                go_simp
                (go_at_call 27; go_fit (unhide EMB _); rintro r v4 ⟨rfl, hb⟩)
                have hH := hide (below_two (unhide hHeld.1) hb)
                have sn := unhide hS _ (unhide hH)
                clear hb
                refine hK.out _ _ ?_ (fun hHeld => ?_)
                · with_reducible exact sn
                clear hK K
                try simp only [Act.put, List.setIfInBounds_toArray, List.set_cons_zero, List.set_cons_succ]
                clear sn
                replace hH := hHeld.1
                refine wpAnyH_ready (rs := [12]) (by kernel_rfl) (by simp) ?_
                refine AllReadyH.cons (o := { dst := some 95, op := Op.call { callee := Callee.value (Operand.func 26), args := #[Operand.tmp 94], argTypes := #[25] }, type := 4, pos := "laws.go:941", after := #[{ on := 11, ground := Ground.data }, { on := 11, ground := Ground.chain }, { on := 8, ground := Ground.guard }], guard := some (8, false) }) rfl (fun K hK => ?_) AllReadyH.nil
                go_simp
                (go_at_call 26; go_fit (unhide EEB _); rintro r v5 ⟨rfl, hb⟩)
                have hH := hide (below_two (unhide hHeld.1) hb)
                have sn := unhide hS _ (unhide hH)
                clear hb
                refine hK.out _ _ ?_ (fun hHeld => ?_)
                · with_reducible exact sn
                clear hK K
                try simp only [Act.put, List.setIfInBounds_toArray, List.set_cons_zero, List.set_cons_succ]
                clear sn
                replace hH := hHeld.1
                refine wpAnyH_take (i := 13) (oi := { dst := some 96, op := Op.unOp UnOp.not 4 (Operand.tmp 95), type := 4, pos := "laws.go:941", after := #[{ on := 12, ground := Ground.data }, { on := 8, ground := Ground.guard }], guard := some (8, false) }) (v := ?_) rfl (by kernel_rfl) (by kernel_rfl) (by kernel_rfl) (fun _ _ _ h => h) (Or.inl ⟨by rfl, ?_⟩) (by assumption) ?_
                rotate_left
                · intro w hSw; (try dsimp only at hSw); go_simp <;> with_reducible rfl
                try simp only [Act.put, List.setIfInBounds_toArray, List.set_cons_zero, List.set_cons_succ]
                refine wpAnyH_take (i := 14) (oi := { dst := some 97, op := Op.pick (Operand.tmp 91) (Operand.const (Value.bool true)) (Operand.tmp 96), type := 4, pos := "laws.go:941", after := #[{ on := 8, ground := Ground.data }, { on := 13, ground := Ground.data }], guard := none }) (v := ?_) rfl (by kernel_rfl) (by kernel_rfl) (by kernel_rfl) (fun _ _ _ h => h) (Or.inl ⟨by rfl, ?_⟩) (by assumption) ?_
                rotate_left
                · intro w hSw; (try dsimp only at hSw); go_simp <;> with_reducible rfl
                try simp only [Act.put, List.setIfInBounds_toArray, List.set_cons_zero, List.set_cons_succ]
                refine wpAnyH_take (i := 15) (oi := { dst := some 98, op := Op.binOp BinOp.neq 4 (Operand.tmp 85) (Operand.tmp 97) 4, type := 4, pos := "laws.go:941", after := #[{ on := 2, ground := Ground.data }, { on := 14, ground := Ground.data }], guard := none }) (v := ?_) rfl (by kernel_rfl) (by kernel_rfl) (by kernel_rfl) (fun _ _ _ h => h) (Or.inl ⟨by rfl, ?_⟩) (by assumption) ?_
                rotate_left
                · intro w hSw; (try dsimp only at hSw); go_simp <;> with_reducible rfl
                try simp only [Act.put, List.setIfInBounds_toArray, List.set_cons_zero, List.set_cons_succ]
                refine wpAnyH_done (by kernel_rfl) ?_ _
                have H9 := hide (unhide hHeld.1)
                clear hHeld
                go_wp2_with fail
                go_roundw
                case rel => exact ⟨i + 1, by omega, by go_num, hide (row_next (unhide H9) (unhide R11)), hide (row_next (unhide H9) (unhide R12)), hide ((unhide LV).next (unhide H9)), hide (below_two (unhide HB) (unhide H9))⟩
                case measure => simp [intOf]; omega
              | true =>
                have ez : (!true || !true) = false := rfl
                rw [ez] at EIN
                clear ez
                refine wp_region_held_drew (S := (fun u => Hid (Below Y.heap.size Y u) ∧ u.cell? ⟨b16, 0, none⟩ = some (.int .i64 B.x0) ∧ u.cell? ⟨b16, 1, none⟩ = some (.int .i64 B.y0) ∧ u.cell? ⟨b16, 2, none⟩ = some (.int .i64 B.x1) ∧ u.cell? ⟨b16, 3, none⟩ = some (.int .i64 B.y1) ∧ u.cell? ⟨b11, 0, none⟩ = some (.int .i64 PA.x0) ∧ u.cell? ⟨b11, 1, none⟩ = some (.int .i64 PA.y0) ∧ u.cell? ⟨b11, 2, none⟩ = some (.int .i64 PA.x1) ∧ u.cell? ⟨b11, 3, none⟩ = some (.int .i64 PA.y1) ∧ u.cell? ⟨b11 + 1, 0, none⟩ = some (.int .i64 PB.x0) ∧ u.cell? ⟨b11 + 1, 1, none⟩ = some (.int .i64 PB.y0) ∧ u.cell? ⟨b11 + 1, 2, none⟩ = some (.int .i64 PB.x1) ∧ u.cell? ⟨b11 + 1, 3, none⟩ = some (.int .i64 PB.y1))) (by kernel_rfl) ?_ (fun hHeld => ?_)
                · exact unhide hS _ (Below.refl _ _).drew
                refine wpAnyH_take (i := 0) (oi := { dst := some 83, op := Op.move (Operand.tmp 14), type := 31, pos := "laws.go:941", after := #[], guard := none }) (v := ?_) rfl (by kernel_rfl) (by kernel_rfl) (by kernel_rfl) (fun _ _ _ h => h) (Or.inl ⟨by rfl, ?_⟩) (by assumption) ?_
                rotate_left
                · intro w hSw; (try dsimp only at hSw); go_simp <;> with_reducible rfl
                try simp only [Act.put, List.setIfInBounds_toArray, List.set_cons_zero, List.set_cons_succ]
                refine wpAnyH_take (i := 1) (oi := { dst := some 84, op := Op.move (Operand.tmp 15), type := 3, pos := "laws.go:941", after := #[], guard := none }) (v := ?_) rfl (by kernel_rfl) (by kernel_rfl) (by kernel_rfl) (fun _ _ _ h => h) (Or.inl ⟨by rfl, ?_⟩) (by assumption) ?_
                rotate_left
                · intro w hSw; (try dsimp only at hSw); go_simp <;> with_reducible rfl
                try simp only [Act.put, List.setIfInBounds_toArray, List.set_cons_zero, List.set_cons_succ]
                refine wpAnyH_take (i := 3) (oi := { dst := some 86, op := Op.load 25 (Operand.tmp 16), type := 25, pos := "laws.go:941", after := #[], guard := none }) (v := ?_) rfl (by kernel_rfl) (by kernel_rfl) (by kernel_rfl) (fun _ _ _ h => h) (Or.inl ⟨by rfl, ?_⟩) (by assumption) ?_
                rotate_left
                · intro w hSw; (try dsimp only at hSw); go_simp <;> with_reducible rfl
                try simp only [Act.put, List.setIfInBounds_toArray, List.set_cons_zero, List.set_cons_succ]
                refine wpAnyH_take (i := 4) (oi := { dst := some 87, op := Op.load 25 (Operand.tmp 11), type := 25, pos := "laws.go:941", after := #[], guard := none }) (v := ?_) rfl (by kernel_rfl) (by kernel_rfl) (by kernel_rfl) (fun _ _ _ h => h) (Or.inl ⟨by rfl, ?_⟩) (by assumption) ?_
                rotate_left
                · intro w hSw; (try dsimp only at hSw); go_simp <;> with_reducible rfl
                try simp only [Act.put, List.setIfInBounds_toArray, List.set_cons_zero, List.set_cons_succ]
                refine wpAnyH_ready (rs := [2]) (by kernel_rfl) (by simp) ?_
                refine AllReadyH.cons (o := { dst := some 85, op := Op.call { callee := Callee.value (Operand.func 25), args := #[Operand.tmp 83, Operand.tmp 84], argTypes := #[31, 3] }, type := 4, pos := "laws.go:941", after := #[{ on := 0, ground := Ground.data }, { on := 1, ground := Ground.data }], guard := none }) rfl (fun K hK => ?_) AllReadyH.nil
                go_simp
                (go_at_call 25; go_fit (unhide EIN _ (unhide hHeld.1)); rintro r v1 ⟨rfl, hb⟩)
                have hH := hide (below_two (unhide hHeld.1) hb)
                have sn := unhide hS _ (unhide hH)
                clear hb
                refine hK.out _ _ ?_ (fun hHeld => ?_)
                · with_reducible exact sn
                clear hK K
                try simp only [Act.put, List.setIfInBounds_toArray, List.set_cons_zero, List.set_cons_succ]
                clear sn
                replace hH := hHeld.1
                refine wpAnyH_ready (rs := [5]) (by kernel_rfl) (by simp) ?_
                refine AllReadyH.cons (o := { dst := some 88, op := Op.call { callee := Callee.value (Operand.func 27), args := #[Operand.tmp 86, Operand.tmp 87], argTypes := #[25, 25] }, type := 25, pos := "laws.go:941", after := #[{ on := 3, ground := Ground.data }, { on := 4, ground := Ground.data }, { on := 2, ground := Ground.chain }], guard := none }) rfl (fun K hK => ?_) AllReadyH.nil
                go_simp
                (go_at_call 27; go_fit (unhide EMA _); rintro r v2 ⟨rfl, hb⟩)
                have hH := hide (below_two (unhide hHeld.1) hb)
                have sn := unhide hS _ (unhide hH)
                clear hb
                refine hK.out _ _ ?_ (fun hHeld => ?_)
                · with_reducible exact sn
                clear hK K
                try simp only [Act.put, List.setIfInBounds_toArray, List.set_cons_zero, List.set_cons_succ]
                clear sn
                replace hH := hHeld.1
                refine wpAnyH_ready (rs := [6]) (by kernel_rfl) (by simp) ?_
                refine AllReadyH.cons (o := { dst := some 89, op := Op.call { callee := Callee.value (Operand.func 26), args := #[Operand.tmp 88], argTypes := #[25] }, type := 4, pos := "laws.go:941", after := #[{ on := 5, ground := Ground.data }, { on := 5, ground := Ground.chain }], guard := none }) rfl (fun K hK => ?_) AllReadyH.nil
                go_simp
                (go_at_call 26; go_fit (unhide EEA _); rintro r v3 ⟨rfl, hb⟩)
                have hH := hide (below_two (unhide hHeld.1) hb)
                have sn := unhide hS _ (unhide hH)
                clear hb
                refine hK.out _ _ ?_ (fun hHeld => ?_)
                · with_reducible exact sn
                clear hK K
                try simp only [Act.put, List.setIfInBounds_toArray, List.set_cons_zero, List.set_cons_succ]
                clear sn
                replace hH := hHeld.1
                refine wpAnyH_take (i := 7) (oi := { dst := some 90, op := Op.unOp UnOp.not 4 (Operand.tmp 89), type := 4, pos := "laws.go:941", after := #[{ on := 6, ground := Ground.data }], guard := none }) (v := ?_) rfl (by kernel_rfl) (by kernel_rfl) (by kernel_rfl) (fun _ _ _ h => h) (Or.inl ⟨by rfl, ?_⟩) (by assumption) ?_
                rotate_left
                · intro w hSw; (try dsimp only at hSw); go_simp <;> with_reducible rfl
                try simp only [Act.put, List.setIfInBounds_toArray, List.set_cons_zero, List.set_cons_succ]
                refine wpAnyH_take (i := 8) (oi := { dst := some 91, op := Op.move (Operand.tmp 90), type := 4, pos := "laws.go:941", after := #[{ on := 7, ground := Ground.data }, { on := 6, ground := Ground.chain }], guard := none }) (v := ?_) rfl (by kernel_rfl) (by kernel_rfl) (by kernel_rfl) (fun _ _ _ h => h) (Or.inl ⟨by rfl, ?_⟩) (by assumption) ?_
                rotate_left
                · intro w hSw; (try dsimp only at hSw); go_simp <;> with_reducible rfl
                try simp only [Act.put, List.setIfInBounds_toArray, List.set_cons_zero, List.set_cons_succ]
                refine wpAnyH_take (i := 9) (oi := { dst := some 92, op := Op.load 25 (Operand.tmp 16), type := 25, pos := "laws.go:941", after := #[{ on := 8, ground := Ground.guard }], guard := some (8, false) }) (v := ?_) rfl (by kernel_rfl) (by kernel_rfl) (by kernel_rfl) (fun _ _ _ h => h) (Or.inl ⟨by rfl, ?_⟩) (by assumption) ?_
                rotate_left
                · intro w hSw; (try dsimp only at hSw); go_simp <;> with_reducible rfl
                try simp only [Act.put, List.setIfInBounds_toArray, List.set_cons_zero, List.set_cons_succ]
                refine wpAnyH_take (i := 10) (oi := { dst := some 93, op := Op.load 25 (Operand.tmp 12), type := 25, pos := "laws.go:941", after := #[{ on := 8, ground := Ground.guard }], guard := some (8, false) }) (v := ?_) rfl (by kernel_rfl) (by kernel_rfl) (by kernel_rfl) (fun _ _ _ h => h) (Or.inl ⟨by rfl, ?_⟩) (by assumption) ?_
                rotate_left
                · intro w hSw; (try dsimp only at hSw); go_simp <;> with_reducible rfl
                try simp only [Act.put, List.setIfInBounds_toArray, List.set_cons_zero, List.set_cons_succ]
                refine wpAnyH_ready (rs := [11]) (by kernel_rfl) (by simp) ?_
                refine AllReadyH.cons (o := { dst := some 94, op := Op.call { callee := Callee.value (Operand.func 27), args := #[Operand.tmp 92, Operand.tmp 93], argTypes := #[25, 25] }, type := 25, pos := "laws.go:941", after := #[{ on := 9, ground := Ground.data }, { on := 10, ground := Ground.data }, { on := 8, ground := Ground.chain }, { on := 8, ground := Ground.guard }], guard := some (8, false) }) rfl (fun K hK => ?_) AllReadyH.nil
                go_simp
                (go_at_call 27; go_fit (unhide EMB _); rintro r v4 ⟨rfl, hb⟩)
                have hH := hide (below_two (unhide hHeld.1) hb)
                have sn := unhide hS _ (unhide hH)
                clear hb
                refine hK.out _ _ ?_ (fun hHeld => ?_)
                · with_reducible exact sn
                clear hK K
                try simp only [Act.put, List.setIfInBounds_toArray, List.set_cons_zero, List.set_cons_succ]
                clear sn
                replace hH := hHeld.1
                refine wpAnyH_ready (rs := [12]) (by kernel_rfl) (by simp) ?_
                refine AllReadyH.cons (o := { dst := some 95, op := Op.call { callee := Callee.value (Operand.func 26), args := #[Operand.tmp 94], argTypes := #[25] }, type := 4, pos := "laws.go:941", after := #[{ on := 11, ground := Ground.data }, { on := 11, ground := Ground.chain }, { on := 8, ground := Ground.guard }], guard := some (8, false) }) rfl (fun K hK => ?_) AllReadyH.nil
                go_simp
                (go_at_call 26; go_fit (unhide EEB _); rintro r v5 ⟨rfl, hb⟩)
                have hH := hide (below_two (unhide hHeld.1) hb)
                have sn := unhide hS _ (unhide hH)
                clear hb
                refine hK.out _ _ ?_ (fun hHeld => ?_)
                · with_reducible exact sn
                clear hK K
                try simp only [Act.put, List.setIfInBounds_toArray, List.set_cons_zero, List.set_cons_succ]
                clear sn
                replace hH := hHeld.1
                refine wpAnyH_take (i := 13) (oi := { dst := some 96, op := Op.unOp UnOp.not 4 (Operand.tmp 95), type := 4, pos := "laws.go:941", after := #[{ on := 12, ground := Ground.data }, { on := 8, ground := Ground.guard }], guard := some (8, false) }) (v := ?_) rfl (by kernel_rfl) (by kernel_rfl) (by kernel_rfl) (fun _ _ _ h => h) (Or.inl ⟨by rfl, ?_⟩) (by assumption) ?_
                rotate_left
                · intro w hSw; (try dsimp only at hSw); go_simp <;> with_reducible rfl
                try simp only [Act.put, List.setIfInBounds_toArray, List.set_cons_zero, List.set_cons_succ]
                refine wpAnyH_take (i := 14) (oi := { dst := some 97, op := Op.pick (Operand.tmp 91) (Operand.const (Value.bool true)) (Operand.tmp 96), type := 4, pos := "laws.go:941", after := #[{ on := 8, ground := Ground.data }, { on := 13, ground := Ground.data }], guard := none }) (v := ?_) rfl (by kernel_rfl) (by kernel_rfl) (by kernel_rfl) (fun _ _ _ h => h) (Or.inl ⟨by rfl, ?_⟩) (by assumption) ?_
                rotate_left
                · intro w hSw; (try dsimp only at hSw); go_simp <;> with_reducible rfl
                try simp only [Act.put, List.setIfInBounds_toArray, List.set_cons_zero, List.set_cons_succ]
                refine wpAnyH_take (i := 15) (oi := { dst := some 98, op := Op.binOp BinOp.neq 4 (Operand.tmp 85) (Operand.tmp 97) 4, type := 4, pos := "laws.go:941", after := #[{ on := 2, ground := Ground.data }, { on := 14, ground := Ground.data }], guard := none }) (v := ?_) rfl (by kernel_rfl) (by kernel_rfl) (by kernel_rfl) (fun _ _ _ h => h) (Or.inl ⟨by rfl, ?_⟩) (by assumption) ?_
                rotate_left
                · intro w hSw; (try dsimp only at hSw); go_simp <;> with_reducible rfl
                try simp only [Act.put, List.setIfInBounds_toArray, List.set_cons_zero, List.set_cons_succ]
                refine wpAnyH_done (by kernel_rfl) ?_ _
                have H9 := hide (unhide hHeld.1)
                clear hHeld
                go_wp2_with fail
                go_roundw
                case rel => exact ⟨i + 1, by omega, by go_num, hide (row_next (unhide H9) (unhide R11)), hide (row_next (unhide H9) (unhide R12)), hide ((unhide LV).next (unhide H9)), hide (below_two (unhide HB) (unhide H9))⟩
                case measure => simp [intOf]; omega
          · have hie : i = M := by omega
            subst hie
            have hii : ¬ (i : Int) < (i : Int) := by omega
            clear R11 R12 hmem hany
            go_upto_region 30 with fail
            go_loopw [17] (fun jv u => ∃ j : Nat, 1 ≤ j ∧ (j ≤ L.length ∨ j = 1) ∧ jv = .int .i64 (j : Int) ∧ Hid (IdV u bl (.slice pl L.length cpl) L.length (listZ L)) ∧ Hid (Below w.heap.size w u)) (fun jv _ => L.length + 1 - (intOf jv).toNat)
            case atStart => exact ⟨1, Nat.le_refl _, .inr rfl, rfl, LV, HB⟩
            case round =>
              clear LV HB
              obtain ⟨j, hj1, hj2, rfl, LV, HB⟩ := hrel
              by_cases hjl : j < L.length
              · have hji : (j : Int) < (L.length : Int) := by omega
                have hsub : IntKind.i64.wrap ((j : Int) - 1) = ((j - 1 : Nat) : Int) := by rw [IntWalk.i64_in _ (by omega)]; omega
                have hjm : ((j - 1 : Nat) : Int) < (L.length : Int) := by omega
                have hlt := unhide hasc (j - 1) (by omega)
                rw [show j - 1 + 1 = j by omega] at hlt
                obtain ⟨s1, o1, e1, g1⟩ := (unhide LV).at (j - 1) (by omega)
                subst e1
                obtain ⟨s2, o2, e2, g2⟩ := (unhide LV).at j hjl
                cases e2
                have hge : ¬ listZ L j ≤ listZ L (j - 1) := by omega
                clear hlt
                generalize listZ L (j - 1) = za at g1 hge
                generalize listZ L j = zb at g2 hge
                have hS := hide (fun u (hu : Below wr.heap.size wr u) => show Hid (Below wr.heap.size wr u) ∧ u.cell? ⟨s1, o1 + (j - 1), none⟩ = some (.int .i64 za) ∧ u.cell? ⟨s1, o1 + j, none⟩ = some (.int .i64 zb) from ⟨hu, kc hu g1, kc hu g2⟩)
                clear g1 g2
                go_upto_region 32 with fail
                refine wp_region_held_drew (S := (fun u => Hid (Below wr.heap.size wr u) ∧ u.cell? ⟨s1, o1 + (j - 1), none⟩ = some (.int .i64 za) ∧ u.cell? ⟨s1, o1 + j, none⟩ = some (.int .i64 zb))) (by kernel_rfl) ?_ (fun hHeld => ?_)
                · exact unhide hS _ (Below.refl _ _).drew
                refine wpAnyH_take (i := 0) (oi := { dst := some 105, op := Op.move (Operand.tmp 14), type := 31, pos := "laws.go:946", after := #[], guard := none }) (v := ?_) rfl (by kernel_rfl) (by kernel_rfl) (by kernel_rfl) (fun _ _ _ h => h) (Or.inl ⟨by rfl, ?_⟩) (by assumption) ?_
                rotate_left
                · intro w hSw; (try dsimp only at hSw); go_simp <;> with_reducible rfl
                try simp only [Act.put, List.setIfInBounds_toArray, List.set_cons_zero, List.set_cons_succ]
                refine wpAnyH_take (i := 1) (oi := { dst := some 106, op := Op.move (Operand.tmp 17), type := 3, pos := "laws.go:946", after := #[], guard := none }) (v := ?_) rfl (by kernel_rfl) (by kernel_rfl) (by kernel_rfl) (fun _ _ _ h => h) (Or.inl ⟨by rfl, ?_⟩) (by assumption) ?_
                rotate_left
                · intro w hSw; (try dsimp only at hSw); go_simp <;> with_reducible rfl
                try simp only [Act.put, List.setIfInBounds_toArray, List.set_cons_zero, List.set_cons_succ]
                refine wpAnyH_take (i := 2) (oi := { dst := some 107, op := Op.binOp BinOp.sub 3 (Operand.tmp 106) (Operand.const (Value.int IntKind.i64 1)) 3, type := 3, pos := "laws.go:946", after := #[{ on := 1, ground := Ground.data }], guard := none }) (v := ?_) rfl (by kernel_rfl) (by kernel_rfl) (by kernel_rfl) (fun _ _ _ h => h) (Or.inl ⟨by rfl, ?_⟩) (by assumption) ?_
                rotate_left
                · intro w hSw; (try dsimp only at hSw); go_simp <;> with_reducible rfl
                try simp only [Act.put, List.setIfInBounds_toArray, List.set_cons_zero, List.set_cons_succ]
                refine wpAnyH_take (i := 3) (oi := { dst := some 108, op := Op.indexAddr 31 (Operand.tmp 105) (Operand.tmp 107), type := 0, pos := "laws.go:946", after := #[{ on := 0, ground := Ground.data }, { on := 2, ground := Ground.data }], guard := none }) (v := ?_) rfl (by kernel_rfl) (by kernel_rfl) (by kernel_rfl) (fun _ _ _ h => h) (Or.inl ⟨by rfl, ?_⟩) (by assumption) ?_
                rotate_left
                · intro w hSw; (try dsimp only at hSw); go_simp <;> with_reducible rfl
                try simp only [Act.put, List.setIfInBounds_toArray, List.set_cons_zero, List.set_cons_succ]
                refine wpAnyH_take (i := 4) (oi := { dst := some 109, op := Op.load 3 (Operand.tmp 108), type := 3, pos := "laws.go:946", after := #[{ on := 3, ground := Ground.data }], guard := none }) (v := ?_) rfl (by kernel_rfl) (by kernel_rfl) (by kernel_rfl) (fun _ _ _ h => h) (Or.inl ⟨by rfl, ?_⟩) (by assumption) ?_
                rotate_left
                · intro w hSw; (try dsimp only at hSw); go_simp <;> with_reducible rfl
                try simp only [Act.put, List.setIfInBounds_toArray, List.set_cons_zero, List.set_cons_succ]
                refine wpAnyH_take (i := 5) (oi := { dst := some 110, op := Op.move (Operand.tmp 14), type := 31, pos := "laws.go:946", after := #[], guard := none }) (v := ?_) rfl (by kernel_rfl) (by kernel_rfl) (by kernel_rfl) (fun _ _ _ h => h) (Or.inl ⟨by rfl, ?_⟩) (by assumption) ?_
                rotate_left
                · intro w hSw; (try dsimp only at hSw); go_simp <;> with_reducible rfl
                try simp only [Act.put, List.setIfInBounds_toArray, List.set_cons_zero, List.set_cons_succ]
                refine wpAnyH_take (i := 6) (oi := { dst := some 111, op := Op.move (Operand.tmp 17), type := 3, pos := "laws.go:946", after := #[], guard := none }) (v := ?_) rfl (by kernel_rfl) (by kernel_rfl) (by kernel_rfl) (fun _ _ _ h => h) (Or.inl ⟨by rfl, ?_⟩) (by assumption) ?_
                rotate_left
                · intro w hSw; (try dsimp only at hSw); go_simp <;> with_reducible rfl
                try simp only [Act.put, List.setIfInBounds_toArray, List.set_cons_zero, List.set_cons_succ]
                refine wpAnyH_take (i := 7) (oi := { dst := some 112, op := Op.indexAddr 31 (Operand.tmp 110) (Operand.tmp 111), type := 0, pos := "laws.go:946", after := #[{ on := 5, ground := Ground.data }, { on := 6, ground := Ground.data }], guard := none }) (v := ?_) rfl (by kernel_rfl) (by kernel_rfl) (by kernel_rfl) (fun _ _ _ h => h) (Or.inl ⟨by rfl, ?_⟩) (by assumption) ?_
                rotate_left
                · intro w hSw; (try dsimp only at hSw); go_simp <;> with_reducible rfl
                try simp only [Act.put, List.setIfInBounds_toArray, List.set_cons_zero, List.set_cons_succ]
                refine wpAnyH_take (i := 8) (oi := { dst := some 113, op := Op.load 3 (Operand.tmp 112), type := 3, pos := "laws.go:946", after := #[{ on := 7, ground := Ground.data }], guard := none }) (v := ?_) rfl (by kernel_rfl) (by kernel_rfl) (by kernel_rfl) (fun _ _ _ h => h) (Or.inl ⟨by rfl, ?_⟩) (by assumption) ?_
                rotate_left
                · intro w hSw; (try dsimp only at hSw); go_simp <;> with_reducible rfl
                try simp only [Act.put, List.setIfInBounds_toArray, List.set_cons_zero, List.set_cons_succ]
                refine wpAnyH_take (i := 9) (oi := { dst := some 114, op := Op.binOp BinOp.geq 3 (Operand.tmp 109) (Operand.tmp 113) 3, type := 4, pos := "laws.go:946", after := #[{ on := 4, ground := Ground.data }, { on := 8, ground := Ground.data }], guard := none }) (v := ?_) rfl (by kernel_rfl) (by kernel_rfl) (by kernel_rfl) (fun _ _ _ h => h) (Or.inl ⟨by rfl, ?_⟩) (by assumption) ?_
                rotate_left
                · intro w hSw; (try dsimp only at hSw); go_simp <;> with_reducible rfl
                try simp only [Act.put, List.setIfInBounds_toArray, List.set_cons_zero, List.set_cons_succ]
                refine wpAnyH_done (by kernel_rfl) ?_ _
                have H9 := hide (unhide hHeld.1)
                clear hHeld
                go_wp2_with fail
                go_roundw
                case rel => exact ⟨j + 1, by omega, .inl (by omega), by go_num, hide ((unhide LV).next (unhide H9)), hide (below_two (unhide HB) (unhide H9))⟩
                case measure => simp [intOf]; omega
              · have hji : ¬ (j : Int) < (L.length : Int) := by omega
                have EBm := hide (unhide EB1 i (by omega))
                rw [unhide hempty] at EBm
                have EE0 := hide (fun u => show Calls Try.prog 26 #[.agg #[.int .i64 0, .int .i64 0, .int .i64 0, .int .i64 0]] u (fun r w' => r = .returned (.bool true) ∧ Below u.heap.size u w') from specEmpty_any 0 0 0 0 u)
                have EO0 := hide (fun a u => unhide EO1 G a 0 0 (by decide) (Nat.le_refl _) u (fun i hi => absurd hi (by omega)))
                rw [unhide hnil] at EO0
                clear LV hasc EB1 EO1
                go_wp2_with fail
                go_fit (unhide ESC _)
                rintro r w8 ⟨rfl, hw8⟩
                replace hw8 := hw8.symm
                subst hw8
                go_wp2_with fail
                go_fit (unhide EBm _)
                rintro r w8 ⟨rfl, hb⟩
                replace HB := hide (below_two (unhide HB) hb)
                clear hb EBm
                go_wp2_with fail
                go_fit (unhide EE0 _)
                rintro r w9 ⟨rfl, hb⟩
                replace HB := hide (below_two (unhide HB) hb)
                clear hb EE0
                go_wp2_with fail
                go_fit (unhide EO0 _ _)
                rintro r w10 ⟨pz, cz, rfl, _, hb⟩
                replace HB := hide (below_two (below_two (unhide HB) (al1_below _ _)) hb)
                clear hb EO0
                go_wp2_with fail
                go_ret
                exact ⟨rfl, unhide HB⟩
  · go_enter Try.func6, Try.ntmps6
    go_wp2_with (go_at_call 21; go_must (refine (big_yes a0 len0 cap0 hl _).mono ?_); rintro e w1 ⟨rfl, rfl⟩)
    go_ret
    exact ⟨rfl, Below.refl _ _⟩
end Go.Proofs.Ytleffglliciioaa
