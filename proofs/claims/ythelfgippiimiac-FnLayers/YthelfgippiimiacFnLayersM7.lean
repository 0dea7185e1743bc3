/-
  SurfE · DrawP · Quot · LayersL · PaintI · BlendI · BoxI · SurfI · SurfH · ModeI · BlendJ: texts of one claim, in one.
-/
import Derived.Test.YthelfgippiimiacFnLayersM6
import Derived.BigQuiet
import Derived.Test.YthelfgippiimiacFnLayersM2
import Derived.Test.YthelfgippiimiacFnLayersM1
import Derived.Deep.DeepFit
import Derived.Deep.DeepCutAuto
import Derived.Deep.RegionLaw
import Derived.Test.YthelfgippiimiacFnLayersM5
import Derived.Laws.EntriesVeiled
import Derived.Deep.RegionHeld3
import Derived.Lib.MinMax

/-
  The specification's SameSurface.
-/
namespace Go.Proofs.Ythelfgippiimiac
open Go.RowKit
set_option linter.unusedVariables false

theorem b4_eq {a b c d e f g h : Int} : (⟨a, b, c, d⟩ : B4) = ⟨e, f, g, h⟩ ↔ (decide (a = e) && (decide (b = f) && (decide (c = g) && decide (d = h)))) = true := by
  simp only [B4.mk.injEq, Bool.and_eq_true, decide_eq_true_eq]

set_option maxHeartbeats 4000000 in
set_option maxRecDepth 100000 in
theorem specSameSurface_any (x y : Int) (f : Nat → B4) (ao : Option Addr) (n cp : Nat) (hn : n ≤ 1048576) (x' y' : Int) (f' : Nat → B4) (bo : Option Addr) (n' cp' : Nat) (hn' : n' ≤ 1048576) (w : World) (P : ∀ i, i < n → ClAt w ao i (f i)) (P' : ∀ i, i < n' → ClAt w bo i (f' i)) :
    Calls Try.prog 11 #[.agg #[.int .i64 x, .int .i64 y, .slice ao n cp], .agg #[.int .i64 x', .int .i64 y', .slice bo n' cp']] w fun r w' => r = .returned (.bool (sameSB x y n f x' y' n' f')) ∧ Below w.heap.size w w' := by
  replace P := hide P
  replace P' := hide P'
  have hyes : Hid (SameS x y n f x' y' n' f' → sameSB x y n f x' y' n' f' = true) := fun h => sameS_iff.2 h
  have hno : Hid (¬ SameS x y n f x' y' n' f' → sameSB x y n f x' y' n' f' = false) := fun h => sameS_no h
  generalize sameSB x y n f x' y' n' f' = X at hyes hno ⊢
  go_enter Try.func11, Try.ntmps11
  go_upto_region 1 with fail
  have R2 := hide (al2_0 w (.cells #[.int .i64 x, .int .i64 y, .slice ao n cp] 26) (.cells #[.int .i64 x', .int .i64 y', .slice bo n' cp'] 26))
  have R3 := hide (al2_1 w (.cells #[.int .i64 x, .int .i64 y, .slice ao n cp] 26) (.cells #[.int .i64 x', .int .i64 y', .slice bo n' cp'] 26))
  have HB := hide (al2_below w (.cells #[.int .i64 x, .int .i64 y, .slice ao n cp] 26) (.cells #[.int .i64 x', .int .i64 y', .slice bo n' cp'] 26))
  obtain ⟨b3, hb3⟩ : ∃ b, Hid (b = w.heap.size + 1) := ⟨_, rfl⟩
  obtain ⟨b2, hb2⟩ : ∃ b, Hid (b = w.heap.size) := ⟨_, rfl⟩
  rw [← unhide hb3] at R3
  rw [← unhide hb2] at R2
  rw [← unhide hb3, ← unhide hb2]
  generalize (w.alloc (.cells #[.int .i64 x, .int .i64 y, .slice ao n cp] 26)).alloc (.cells #[.int .i64 x', .int .i64 y', .slice bo n' cp'] 26) = W at R2 R3 HB ⊢
  clear hb3 hb2
  obtain ⟨r0, r1, r2⟩ := row3 (unhide R2)
  obtain ⟨s0, s1, s2⟩ := row3 (unhide R3)
  by_cases hx : x = x'
  · have hxb : (x == x') = true := beq_iff_eq.2 hx
    by_cases hy : y = y'
    · have hyb : (y == y') = true := beq_iff_eq.2 hy
      by_cases hnn : n = n'
      · subst hx hy hnn
        clear hxb hyb
        go_upto_region 3 with fail
        go_wp2_with fail
        clear r0 r1 r2 s0 s1 s2
        go_loopw [5] (fun i u => ∃ k : Nat, k ≤ n ∧ i = .int .i64 k ∧ Hid (∀ j, j < k → f j = f' j) ∧ Hid (Below w.heap.size w u) ∧ Hid (u.heap[b2]? = some (.cells #[.int .i64 x, .int .i64 y, .slice ao n cp] 26 (0, 0))) ∧ Hid (u.heap[b3]? = some (.cells #[.int .i64 x, .int .i64 y, .slice bo n cp'] 26 (0, 0)))) (fun i _ => n - (intOf i).toNat)
        case atStart => exact ⟨0, Nat.zero_le _, rfl, fun j hj => absurd hj (by omega), HB, R2, R3⟩
        case round =>
          clear HB R2 R3
          obtain ⟨k, hk, rfl, HK, HB, R2, R3⟩ := hrel
          obtain ⟨r0, r1, r2⟩ := row3 (unhide R2)
          obtain ⟨s0, s1, s2⟩ := row3 (unhide R3)
          by_cases hlt : k < n
          · have HP := (unhide P k hlt).next (unhide HB)
            have HQ := (unhide P' k hlt).next (unhide HB)
            obtain ⟨z, hz⟩ : ∃ z, Hid (f k = z) := ⟨_, rfl⟩
            obtain ⟨t, ht⟩ : ∃ t, Hid (f' k = t) := ⟨_, rfl⟩
            rw [unhide hz] at HP
            rw [unhide ht] at HQ
            obtain ⟨z0, z1, z2, z3⟩ := z
            obtain ⟨t0, t1, t2, t3⟩ := t
            obtain ⟨g, o, rfl, g0, g1, g2, g3⟩ := HP
            obtain ⟨h, o', rfl, h0, h1, h2, h3⟩ := HQ
            dsimp only at g0 g1 g2 g3 h0 h1 h2 h3
            have hki : (k : Int) < (n : Int) := by omega
            have hk0 : ¬ (k : Int) < 0 := by omega
            have hq := hide (@b4_eq z0 z1 z2 z3 t0 t1 t2 t3)
            have q : ∀ u, (Op.equalIn 10000 42 (.agg #[.int .i64 z0, .int .i64 z1, .int .i64 z2, .int .i64 z3]) (.agg #[.int .i64 t0, .int .i64 t1, .int .i64 t2, .int .i64 t3])).run Try.prog u = .ok (decide (z0 = t0) && (decide (z1 = t1) && (decide (z2 = t2) && decide (z3 = t3)))) u := fun u => eqlColor z0 z1 z2 z3 t0 t1 t2 t3 u
            generalize (decide (z0 = t0) && (decide (z1 = t1) && (decide (z2 = t2) && decide (z3 = t3)))) = eb at hq q
            cases eb with
            | false =>
              have hX := hide (unhide hno (fun h => by have := h.2.2.2 k hlt; rw [unhide hz, unhide ht] at this; exact absurd ((unhide hq).1 this) (by simp)))
              clear hq
              go_upto_region 6 with fail
              go_quiet (fail)
              go_wp2_with fail
              go_ret
              exact ⟨ret_bool (unhide hX).symm, below_drews (unhide HB) _⟩
            | true =>
              have HK2 : Hid (∀ j, j < k + 1 → f j = f' j) := cols_more (unhide HK) (by rw [unhide hz, unhide ht]; exact (unhide hq).2 rfl)
              clear hq
              go_upto_region 6 with fail
              go_quiet (fail)
              go_wp2_with fail
              go_roundw
              case rel => exact ⟨k + 1, by omega, by go_num, HK2, below_drews (unhide HB) _, unhide R2, unhide R3⟩
              case measure => simp [intOf]; omega
          · have hke : k = n := by omega
            subst hke
            have hki : ¬ (k : Int) < (k : Int) := by omega
            have hX := hide (unhide hyes ⟨rfl, rfl, rfl, unhide HK⟩)
            go_wp2_with fail
            go_ret
            exact ⟨ret_bool (unhide hX).symm, unhide HB⟩
      · have hX := hide (unhide hno (fun h => hnn h.2.2.1))
        have hnb : ((n : Int) == (n' : Int)) = false := beq_eq_false_iff_ne.2 (by omega)
        go_wp2_with fail
        go_ret
        exact ⟨ret_bool (unhide hX).symm, unhide HB⟩
    · have hX := hide (unhide hno (fun h => hy h.2.1))
      have hyb : (y == y') = false := beq_eq_false_iff_ne.2 hy
      go_wp2_with fail
      go_ret
      exact ⟨ret_bool (unhide hX).symm, unhide HB⟩
  · have hX := hide (unhide hno (fun h => hx h.1))
    have hxb : (x == x') = false := beq_eq_false_iff_ne.2 hx
    go_wp2_with fail
    go_ret
    exact ⟨ret_bool (unhide hX).symm, unhide HB⟩
end Go.Proofs.Ythelfgippiimiac

/-
  DrawPlaces: twelve numbers in 0 .. 9999.
-/
namespace Go.Proofs.Ythelfgippiimiac
open Go.RowKit


/-- A number as a value. -/
def Nv (n : Nat) : Value := .int .i64 (n : Int)
theorem all_snoc {p : List Nat} {x n : Nat} (h : ∀ y ∈ p, y < n) (hx : x < n) : ∀ y ∈ p ++ [x], y < n := by
  intro y hy
  rcases List.mem_append.1 hy with h' | h'
  · exact h y h'
  · simp at h'; omega
theorem num_row {w : World} {base x : Nat} {v : Value} {p : List Nat} (h : w.ownsRow base 3 1 v (p.map Nv ++ #[Value.int .i64 (x : Int)].toList).length (p.map Nv ++ #[Value.int .i64 (x : Int)].toList)) : w.ownsRow base 3 1 v (p ++ [x]).length ((p ++ [x]).map Nv) := by
  have e : p.map Nv ++ #[Value.int .i64 (x : Int)].toList = (p ++ [x]).map Nv := by simp [Nv]
  rw [e, List.length_map] at h
  exact h

theorem big_no (a : Option Addr) (len cap : Nat) (hl : len ≤ 1048576) (w : World) :
    Calls Try.prog 4 #[.slice a len cap] w fun e w' => e = .returned (.bool false) ∧ w' = w := by
  have hd : decide ((1048576 : Int) < (len : Int)) = false := by simp; omega
  go_enter Try.func4, Try.ntmps4
  go_wp2
  go_ret
  exact ⟨rfl, rfl⟩
theorem big_yes (a : Option Addr) (len cap : Nat) (hl : ¬ len ≤ 1048576) (w : World) :
    Calls Try.prog 4 #[.slice a len cap] w fun e w' => e = .returned (.bool true) ∧ w' = w := by
  have hd : decide ((1048576 : Int) < (len : Int)) = true := by simp; omega
  go_enter Try.func4, Try.ntmps4
  go_wp2
  go_ret
  exact ⟨rfl, rfl⟩

set_option maxHeartbeats 1000000 in
set_option maxRecDepth 100000 in
theorem drawPlaces_any (a : Option Addr) (len cap : Nat) (w : World) (hl : len ≤ 1048576) (hin : InB w.heap.size w a len) :
    Calls Try.prog 8 #[.slice a len cap] w fun e w' => ∃ (v : Value) (p : List Nat), p.length = 12 ∧ (∀ x ∈ p, x < 10000) ∧ e = .returned v ∧ w'.ownsRow w.heap.size 3 1 v p.length (p.map Nv) ∧ Below w.heap.size w w' := by
  obtain ⟨i0, hi, hz0, hz1, hz2⟩ := info_parts Try.info3
  have HI := hide hin
  clear hin
  go_enter Try.func8, Try.ntmps8
  go_wp2_with fail
  refine (l01New_any a len cap _ hl (unhide HI)).mono ?_
  rintro e w1 ⟨g, hgB, rfl, hc1, hb1⟩
  have C1 := hide hc1
  have B1 := hide hb1
  clear hc1 hb1
  go_wp2_with fail
  refine (l01Byte_any g w.heap.size a len cap _ hl hgB ((unhide HI).below (unhide B1)) (unhide C1)).mono ?_
  rintro e w2 ⟨x0, _, rfl, hc2, hg2⟩
  have B2 := hide ((unhide B1).grown hg2 (unhide B1).size (fun k hk => by cases hk; exact hgB))
  have C2 := hide hc2
  clear hc2 hg2
  go_wp2
  go_loopw [4, 5] (fun v i wr => ∃ (k : Nat) (p : List Nat), k ≤ 12 ∧ i = .int .i64 k ∧ p.length = k ∧ (∀ x ∈ p, x < 10000) ∧ wr.ownsRow w2.heap.size 3 1 v p.length (p.map Nv) ∧ Cur wr g a len cap ∧ w2.grownBy wr (some g)) (fun _ i _ => 12 - (intOf i).toNat)
  case atStart => exact ⟨0, [], by omega, rfl, rfl, by simp, World.ownsRow_lit w2 #[] 0 (Nat.le_refl _) (by decide) rfl, (unhide C2).grown (World.grownBy_alloc w2 _ none) (by simp), World.grownBy_alloc w2 _ _⟩
  case round =>
    obtain ⟨k, p, hk, rfl, hlk, hpb, hown, hc, hg⟩ := hrel
    have hgl := (unhide C2).lt
    have C := hide hc
    have G := hide hg
    have O := hide hown
    have LK := hide hlk
    have PB := hide hpb
    clear hc hg hlk hown hpb
    by_cases hlt : k < 12
    · go_wp2_with (first | (go_at_call 23; go_must (refine (l01Below_any g w.heap.size a len cap 10000 (by omega) (by omega) _ hl hgB (Nat.le_trans (unhide B2).size (unhide G).size) (((unhide HI).below (unhide B2)).grown (unhide G) hgB (unhide B2).size) (unhide C)).mono ?_); rintro e w3 ⟨x, hx, rfl, hc1, hg1⟩; have C3 := hide hc1; have G3 := hide (grown_trans (unhide G) hg1); have O3 := hide (own_grown (unhide O) hg1 hgl); clear hc1 hg1) | (at_builtin; go_must (refine wpList_append_cur w3 rfl _ _ 31 3 rfl w2.heap.size i0 (.int .i64 0) 8 Try.underlying31 hi hz0 hz1 hz2 rfl _ (p.map Nv) (by rfl) (by rw [List.length_map]; exact unhide O3) _ (by intro u hu; simp at hu; subst hu; rfl) 1 1 rfl (by rfl) (by have := unhide LK; unfold maxLen; simp; omega) (by have := unhide LK; simp; omega) w2 (Nat.le_refl _) (unhide G3).size g a len cap hgl (unhide G3) (unhide C3) ?_); intro v' w4 hown2 hc2 hg2))
      go_roundw
      case rel => exact ⟨k + 1, p ++ [x], by omega, by go_num, by have := unhide LK; simp; omega, all_snoc (unhide PB) hx, num_row hown2, hc2, hg2⟩
      case measure => simp [intOf]; omega
    · have hke : k = 12 := by omega
      have KE := hide hke
      have hlt' : ¬ (k : Int) < 12 := by omega
      clear hke
      go_wp2
      go_ret
      exact ⟨_, p, (unhide LK).trans (unhide KE), unhide PB, rfl, own_low (unhide O) (unhide B2).size, (unhide B2).grown (unhide G) (unhide B2).size (fun k hk => by cases hk; exact hgB)⟩
end Go.Proofs.Ythelfgippiimiac

/-
  FnQuotients: drawn quotients and roots.
-/
namespace Go.Proofs.Ythelfgippiimiac
open Go.RowKit

def absI (x : Int) : Int := if x < 0 then -x else x

theorem quot_down (a b : Int) (hb : 1 ≤ b) : fdivI a b * b ≤ a ∧ a < (fdivI a b + 1) * b ∧ a - b < fdivI a b * b ∧ (fdivI a b + 1) * b = fdivI a b * b + b := by
  have e1 : fdivI a b = a / b := by unfold fdivI; rw [if_neg (by omega)]
  rw [e1]
  have e := Int.mul_ediv_add_emod a b
  have bd := emod_bd a b hb
  have e2 : a / b * b = a - a % b := by rw [Int.mul_comm]; omega
  have e3 : (a / b + 1) * b = a / b * b + b := by rw [Int.add_mul, Int.one_mul]
  rw [e3, e2]
  omega

theorem quot_near (a b : Int) (hb : 1 ≤ b) : 2 * absI (a - rdivI a b * b) ≤ b ∧ 2 * (rdivI a b * b - a) ≤ b ∧ (2 * absI (a - rdivI a b * b) < b ∨ a < rdivI a b * b) ∧ 0 ≤ absI (a - rdivI a b * b) ∧ a - b ≤ rdivI a b * b ∧ rdivI a b * b ≤ a + b := by
  have e := Int.mul_ediv_add_emod a b
  have bd := emod_bd a b hb
  have e2 : a / b * b = a - a % b := by rw [Int.mul_comm]; omega
  have e3 : (a / b + 1) * b = a / b * b + b := by rw [Int.add_mul, Int.one_mul]
  by_cases hc : b - a % b ≤ a % b
  · have e1 : rdivI a b = a / b + 1 := by unfold rdivI; rw [if_neg (by omega), if_pos hc]
    rw [e1, e3, e2]
    have : absI (a - (a - a % b + b)) = b - a % b := by unfold absI; split <;> omega
    rw [this]
    omega
  · have e1 : rdivI a b = a / b := by unfold rdivI; rw [if_neg (by omega), if_neg hc]
    rw [e1, e2]
    have : absI (a - (a - a % b)) = a % b := by unfold absI; split <;> omega
    rw [this]
    omega

theorem prod_bd {x y : Int} (h1 : 0 ≤ x ∧ x < 10000) (h2 : 0 ≤ y ∧ y < 10000) : 0 ≤ x * y ∧ x * y ≤ 99980001 :=
  ⟨Int.mul_nonneg h1.1 h2.1, by have := Int.mul_le_mul (show x ≤ 9999 by omega) (show y ≤ 9999 by omega) h2.1 (by decide); omega⟩

theorem next_sq (s : Int) : (s + 1) * (s + 1) = s * s + 2 * s + 1 := by rw [Int.add_mul, Int.mul_add]; omega

theorem root_small {n s : Int} (h : IsRoot n s) (hn : n ≤ 99980001) : s ≤ 9999 := by
  by_cases hs : s ≤ 9999
  · exact hs
  · have := sq_mono (a := 10000) (b := s) (by omega) (by omega)
    have := h.sq
    omega

theorem fac_small {q b : Int} (hb : 1 ≤ b) (h0 : -1000000000 ≤ q * b) (h1 : q * b ≤ 1000000000) : -1000000000 ≤ q ∧ q ≤ 1000000000 := by
  by_cases hq : 0 ≤ q
  · have := Int.mul_le_mul_of_nonneg_left hb hq
    rw [Int.mul_one] at this
    omega
  · have := Int.mul_le_mul_of_nonpos_left (show q ≤ 0 by omega) hb
    rw [Int.mul_one] at this
    omega

/-- A place of the drawn ones. -/
theorem place_at {w : World} {base : Nat} {p : List Nat} {gp cap : Nat} (h : w.ownsRow base 3 1 (.slice (some ⟨gp, 0, none⟩) p.length cap) p.length (p.map Nv)) (hp : ∀ x ∈ p, x < 10000) (i : Nat) (hi : i < p.length) :
    ∃ x : Int, (0 ≤ x ∧ x < 10000) ∧ w.cell? ⟨gp, i, none⟩ = some (.int .i64 x) := by
  have hm := List.getElem_mem hi
  have := hp _ hm
  refine ⟨((p[i] : Nat) : Int), ⟨by omega, by omega⟩, ?_⟩
  rw [h.cellAt i (by omega), List.getElem?_map, List.getElem?_eq_getElem hi]
  rfl

end Go.Proofs.Ythelfgippiimiac

/-
  FnLayers, from what the program's functions answer. (By layerslaw.py.)
-/
namespace Go.Proofs.Ythelfgippiimiac
open Go.RowKit
set_option linter.unusedVariables false

/-- A call that a guard lets by, as one step of a region that draws its order. -/
theorem step_callG {P : Program} {ops : Array Oper} {o : Oper} {a : Act} {w : World} {K : Act → World → Prop} {Q : Exit → Act → World → Prop} {E : Prop} (hw : Region.wanted o (yielded ops a.tmps) = true) (f : FuncId) (vs : Array Value)
    (hrun : (execOp a.eval o).run P w = .ok (.enter f vs) w) {Post : Ending → World → Prop} (h : Calls P f vs w Post) (hK : ∀ r w', Post r w' → ∃ v, r = .returned v ∧ K (a.put o.dst v) w') :
    if Region.wanted o (yielded ops a.tmps) = true then Oper.wp P o a w K Q else E := by
  rw [if_pos hw]
  unfold Oper.wp
  rw [hrun, Oper.upon_enter]
  refine h.mono fun r w' hp => ?_
  obtain ⟨v, rfl, hk⟩ := hK r w' hp
  exact hk
theorem ColsV.nocap {w : World} {base n c : Nat} {v : Option Addr} {f : Nat → B4} (h : ColsV w base (.slice v n c) n f) : v = none → c = 0 := by
  intro e
  subst e
  obtain ⟨xs, ⟨_, h | ⟨g, cap, cur, hv, _⟩⟩, _⟩ := h
  · cases h.1; rfl
  · cases hv
theorem fade_clear (z : Int) : fadeC clear4 z = clear4 := by
  have h := fade_ok (c := clear4) (by decide) z
  have h1 := laidOk_iff.1 h.1
  obtain ⟨_, h2, _⟩ := h
  generalize fadeC clear4 z = X at h1 h2
  obtain ⟨X0, X1, X2, X3⟩ := X
  unfold clear4 at h2 ⊢
  dsimp only at h1 h2
  rw [B4.mk.injEq]
  omega
theorem lay_over {x y : Int} {n : Nat} {f : Nat → B4} (h : SOk x y n f) : ∀ i, i < n → layOn 1 255 x y n (fun _ => clear4) x y n f i = f i := by
  intro i hi
  unfold layOn
  split
  · show blendC 1 (fadeC (f i) 255) clear4 = f i
    rw [fade_all (h.2.2.2 i hi)]
    exact blend_over (h.2.2.2 i hi)
  · rename_i hne
    exact absurd ⟨surfOk_iff.2 (h.congr (fun _ _ => (by decide))), surfOk_iff.2 h, rfl, rfl⟩ hne
theorem lay_clear {x y mode z : Int} {n : Nat} {f : Nat → B4} (h : SOk x y n f) : ∀ i, i < n → layOn mode z x y n f x y n (fun _ => clear4) i = f i := by
  intro i hi
  unfold layOn
  split
  · show blendC mode (fadeC clear4 z) (f i) = f i
    rw [fade_clear]
    exact blend_clear mode (h.2.2.2 i hi)
  · rfl
theorem new_right {w w' : World} {r : Ending} {x y : Int} {n : Nat} {f : Nat → B4} (h : NewRes w r w' x y) (hok : SOk x y n f) : ∃ pe ce, r = .returned (.tuple #[.agg #[.int .i64 x, .int .i64 y, .slice pe n ce], .bool true]) ∧ ColsV w' w.heap.size (.slice pe n ce) n (fun _ => clear4) ∧ Below w.heap.size w w' := by
  have hk : newOkB x y = true := newOk_iff.2 ⟨hok.1, hok.2.1⟩
  have e1 : newX x y = x := if_pos hk
  have e2 : newY x y = y := if_pos hk
  have e3 : newN x y = n := by unfold newN; rw [if_pos hk]; have := hok.2.2.1; omega
  obtain ⟨pe, ce, hr, hc, hb⟩ := h
  rw [e1, e2, e3, hk] at hr
  rw [e3] at hc
  exact ⟨pe, ce, hr, hc, hb⟩
theorem new_wrong {w w' : World} {r : Ending} (h : NewRes w r w' 13 1) : ∃ pe ce, r = .returned (.tuple #[.agg #[.int .i64 0, .int .i64 0, .slice pe 0 ce], .bool false]) ∧ Below w.heap.size w w' := by
  obtain ⟨pe, ce, hr, hc, hb⟩ := h
  rw [show newX 13 1 = 0 by decide, show newY 13 1 = 0 by decide, show newN 13 1 = 0 by decide, show newOkB 13 1 = false by decide] at hr
  exact ⟨pe, ce, hr, hb⟩
/-- What the law keeps: the surface, an empty one, and three that are laid over another. -/
structure LO (w u : World) (b3 b4 b6 b8 b9 : Nat) (x y : Int) (n : Nat) (p : Option Addr) (cp : Nat) (f : Nat → B4) (pe : Option Addr) (ce : Nat) (pa : Option Addr) (ca : Nat) (A : Nat → B4) (pb : Option Addr) (cb : Nat) (Bf : Nat → B4) (pc : Option Addr) (cc : Nat) (C : Nat → B4) : Prop where
  rs : u.heap[b3]? = some (.cells #[.int .i64 x, .int .i64 y, .slice p n cp] 26 (0, 0))
  re : u.heap[b4]? = some (.cells #[.int .i64 x, .int .i64 y, .slice pe n ce] 26 (0, 0))
  ra : u.heap[b6]? = some (.cells #[.int .i64 x, .int .i64 y, .slice pa n ca] 26 (0, 0))
  rb : u.heap[b8]? = some (.cells #[.int .i64 x, .int .i64 y, .slice pb n cb] 26 (0, 0))
  rc : u.heap[b9]? = some (.cells #[.int .i64 x, .int .i64 y, .slice pc n cc] 26 (0, 0))
  cs : ColsV u w.heap.size (.slice p n cp) n f
  ce : ColsV u w.heap.size (.slice pe n ce) n (fun _ => clear4)
  ca : ColsV u w.heap.size (.slice pa n ca) n A
  cb : ColsV u w.heap.size (.slice pb n cb) n Bf
  cc : ColsV u w.heap.size (.slice pc n cc) n C
  hb : Below w.heap.size w u
theorem LO.next {w u v : World} {b3 b4 b6 b8 b9 : Nat} {x y : Int} {n : Nat} {p : Option Addr} {cp : Nat} {f : Nat → B4} {pe : Option Addr} {ce : Nat} {pa : Option Addr} {ca : Nat} {A : Nat → B4} {pb : Option Addr} {cb : Nat} {Bf : Nat → B4} {pc : Option Addr} {cc : Nat} {C : Nat → B4} (h : LO w u b3 b4 b6 b8 b9 x y n p cp f pe ce pa ca A pb cb Bf pc cc C) (hb : Below u.heap.size u v) : LO w v b3 b4 b6 b8 b9 x y n p cp f pe ce pa ca A pb cb Bf pc cc C :=
  ⟨row_next hb h.rs, row_next hb h.re, row_next hb h.ra, row_next hb h.rb, row_next hb h.rc, h.cs.next hb, h.ce.next hb, h.ca.next hb, h.cb.next hb, h.cc.next hb, below_two h.hb hb⟩

set_option maxHeartbeats 16000000 in
set_option maxRecDepth 100000 in
theorem fnLayers_of (EN : ∀ (x y : Int) (w : World), Calls Try.prog 6 #[.int .i64 x, .int .i64 y] w fun r w' => NewRes w r w' x y)
    (EL : ∀ (x y : Int) (F : Nat → B4) (ao : Option Addr) (n ca : Nat) (hn : n ≤ 1048576) (hca : n ≤ ca) (hao : ao = none → ca = 0) (x' y' : Int) (G : Nat → B4) (bo : Option Addr) (m cb : Nat) (hm : m ≤ 1048576) (hcb : m ≤ cb) (hbo : bo = none → cb = 0) (mode fade : Int) (w : World) (PA : ∀ i, i < n → ClAt w ao i (F i)) (PB : ∀ i, i < m → ClAt w bo i (G i)), Calls Try.prog 7 #[.agg #[.int .i64 x, .int .i64 y, .slice ao n ca], .agg #[.int .i64 x', .int .i64 y', .slice bo m cb], .int .i64 mode, .int .i64 fade] w fun r w' => SurfRes w r w' x y n (layOn mode fade x y n F x' y' m G))
    (ES : ∀ (x y : Int) (f : Nat → B4) (ao : Option Addr) (n cp : Nat) (hn : n ≤ 1048576) (hc : n ≤ cp) (hao : ao = none → cp = 0) (w : World) (P : ∀ i, i < n → ClAt w ao i (f i)), Calls Try.prog 10 #[.agg #[.int .i64 x, .int .i64 y, .slice ao n cp]] w fun r w' => r = .returned (.bool (surfOkB x y n f)) ∧ Below w.heap.size w w')
    (EE : ∀ (x y : Int) (F : Nat → B4) (ao : Option Addr) (n ca : Nat) (hn : n ≤ 1048576) (hca : n ≤ ca) (hao : ao = none → ca = 0) (x' y' : Int) (G : Nat → B4) (bo : Option Addr) (m cb : Nat) (hm : m ≤ 1048576) (hcb : m ≤ cb) (hbo : bo = none → cb = 0) (w : World) (PA : ∀ i, i < n → ClAt w ao i (F i)) (PB : ∀ i, i < m → ClAt w bo i (G i)), Calls Try.prog 9 #[.agg #[.int .i64 x, .int .i64 y, .slice ao n ca], .agg #[.int .i64 x', .int .i64 y', .slice bo m cb]] w fun r w' => r = .returned (.bool (sameSB x y n F x' y' m G)) ∧ Below w.heap.size w w')
    (a0 : Option Addr) (len0 cap0 : Nat) (z0 : List Int) (w : World) (w0 : IsRow .u8 w a0 len0 cap0 z0) :
    Calls Try.prog 3 #[.slice a0 len0 cap0] w fun e w' => e = .returned (.bool true) ∧ Below w.heap.size w w' := by
  by_cases hl : len0 ≤ 1048576
  · have HI := hide (InB.of_row w0)
    clear w0
    go_enter Try.func3, Try.ntmps3
    go_wp2_with fail
    refine (big_no a0 len0 cap0 hl _).mono ?_
    rintro e w1 ⟨rfl, hw⟩
    rw [hw]
    clear hw w1
    go_wp2_with fail
    refine (drawRightSurface_any a0 len0 cap0 _ hl (unhide HI)).mono ?_
    rintro e w2 ⟨⟨x, y, p, n, cp, f, rfl, hO, hok⟩, hb⟩
    go_upto_region 4 with fail
    have R3 := hide (new_row w2 (.cells #[.int .i64 x, .int .i64 y, .slice p n cp] 26))
    have HB := hide (below_two hb (al1_below w2 (.cells #[.int .i64 x, .int .i64 y, .slice p n cp] 26)))
    replace hO := hide (hO.next (al1_below w2 (.cells #[.int .i64 x, .int .i64 y, .slice p n cp] 26)))
    clear hb
    generalize w2.alloc (.cells #[.int .i64 x, .int .i64 y, .slice p n cp] 26) = W2 at R3 HB hO ⊢
    generalize w2.heap.size = b3 at R3 ⊢
    have hn : n ≤ 1048576 := by have := hok.le; omega
    have hcap := (unhide hO).cap
    have hnone := hide (unhide hO).nocap
    have E2 := hide (EN x y W2)
    obtain ⟨c0, c1, c2⟩ := row3 (unhide R3)
    go_wp2_with fail
    go_fit (unhide E2)
    intro e w3 hres
    obtain ⟨pe, ce, rfl, hE, hb⟩ := new_right hres hok
    clear hres E2 c0 c1 c2
    go_upto_region 5 with fail
    have R4 := hide (new_row w3 (.cells #[.int .i64 x, .int .i64 y, .slice pe n ce] 26))
    replace R3 := hide (row_next (al1_below w3 (.cells #[.int .i64 x, .int .i64 y, .slice pe n ce] 26)) (row_next hb (unhide R3)))
    replace hO := hide (((unhide hO).next hb).next (al1_below w3 (.cells #[.int .i64 x, .int .i64 y, .slice pe n ce] 26)))
    replace hE := hide ((hE.low (unhide HB).size).next (al1_below w3 (.cells #[.int .i64 x, .int .i64 y, .slice pe n ce] 26)))
    replace HB := hide (below_two (below_two (unhide HB) hb) (al1_below w3 (.cells #[.int .i64 x, .int .i64 y, .slice pe n ce] 26)))
    clear hb
    generalize w3.alloc (.cells #[.int .i64 x, .int .i64 y, .slice pe n ce] 26) = W3 at R3 R4 HB hO hE ⊢
    generalize w3.heap.size = b4 at R4 ⊢
    have hcapE := (unhide hE).cap
    have hnoneE := hide (unhide hE).nocap
    have E2 := hide (EL x y (fun _ => clear4) pe n ce hn hcapE (unhide hnoneE) x y f p n cp hn hcap (unhide hnone) 1 255 W3 (unhide hE).cols (unhide hO).cols)
    have hA := hide (lay_over hok)
    generalize layOn 1 255 x y n (fun _ => clear4) x y n f = A at E2 hA
    obtain ⟨c0, c1, c2⟩ := row3 (unhide R3)
    obtain ⟨d0, d1, d2⟩ := row3 (unhide R4)
    go_wp2_with fail
    go_fit (unhide E2)
    rintro e w4 ⟨pa, ca, rfl, hOA, hb⟩
    clear E2 c0 c1 c2 d0 d1 d2
    go_upto_region 6 with fail
    have R6 := hide (new_row w4 (.cells #[.int .i64 x, .int .i64 y, .slice pa n ca] 26))
    replace R3 := hide (row_next (al1_below w4 (.cells #[.int .i64 x, .int .i64 y, .slice pa n ca] 26)) (row_next hb (unhide R3)))
    replace R4 := hide (row_next (al1_below w4 (.cells #[.int .i64 x, .int .i64 y, .slice pa n ca] 26)) (row_next hb (unhide R4)))
    replace hO := hide (((unhide hO).next hb).next (al1_below w4 (.cells #[.int .i64 x, .int .i64 y, .slice pa n ca] 26)))
    replace hE := hide (((unhide hE).next hb).next (al1_below w4 (.cells #[.int .i64 x, .int .i64 y, .slice pa n ca] 26)))
    replace hOA := hide ((hOA.low (unhide HB).size).next (al1_below w4 (.cells #[.int .i64 x, .int .i64 y, .slice pa n ca] 26)))
    replace HB := hide (below_two (below_two (unhide HB) hb) (al1_below w4 (.cells #[.int .i64 x, .int .i64 y, .slice pa n ca] 26)))
    clear hb
    generalize w4.alloc (.cells #[.int .i64 x, .int .i64 y, .slice pa n ca] 26) = W4 at R3 R4 R6 HB hO hE hOA ⊢
    generalize w4.heap.size = b6 at R6 ⊢
    go_wp2_with fail
    refine (drawPlaces_any a0 len0 cap0 _ hl ((unhide HI).next (unhide HB))).mono ?_
    rintro e w5 ⟨vp, pl, hp12, hpb, rfl, hop, hb⟩
    replace R3 := hide (row_next hb (unhide R3))
    replace R4 := hide (row_next hb (unhide R4))
    replace R6 := hide (row_next hb (unhide R6))
    replace hO := hide ((unhide hO).next hb)
    replace hE := hide ((unhide hE).next hb)
    replace hOA := hide ((unhide hOA).next hb)
    replace HB := hide (below_two (unhide HB) hb)
    obtain ⟨pp, ppc, rfl, _, _, _, hpp⟩ := row_form hop
    obtain ⟨gp, rfl, hgp1, hgp2⟩ := hpp (by omega)
    obtain ⟨u0, ⟨_, _⟩, c0⟩ := place_at hop hpb 0 (by omega)
    rw [hp12]
    clear hpb hop hb hgp1 hgp2 hpp hp12 HI
    have t0 : u0.tmod 5 = u0 % 5 := Int.tmod_eq_emod_of_nonneg (by omega)
    go_upto_region 7 with fail
    clear c0
    obtain ⟨mode, hmode⟩ : ∃ z : Int, 1 + u0 % 5 = z := ⟨_, rfl⟩
    rw [hmode]
    clear hmode t0
    have E2 := hide (EL x y f p n cp hn hcap (unhide hnone) x y (fun _ => clear4) pe n ce hn hcapE (unhide hnoneE) mode 200 w5 (unhide hO).cols (unhide hE).cols)
    have hBf := hide (lay_clear (mode := mode) (z := 200) hok)
    generalize layOn mode 200 x y n f x y n (fun _ => clear4) = Bf at E2 hBf
    obtain ⟨c0, c1, c2⟩ := row3 (unhide R3)
    obtain ⟨d0, d1, d2⟩ := row3 (unhide R4)
    go_wp2_with fail
    go_fit (unhide E2)
    rintro e w6 ⟨pb, cb, rfl, hOB, hb⟩
    clear E2 c0 c1 c2 d0 d1 d2
    go_upto_region 8 with fail
    have R8 := hide (new_row w6 (.cells #[.int .i64 x, .int .i64 y, .slice pb n cb] 26))
    replace R3 := hide (row_next (al1_below w6 (.cells #[.int .i64 x, .int .i64 y, .slice pb n cb] 26)) (row_next hb (unhide R3)))
    replace R4 := hide (row_next (al1_below w6 (.cells #[.int .i64 x, .int .i64 y, .slice pb n cb] 26)) (row_next hb (unhide R4)))
    replace R6 := hide (row_next (al1_below w6 (.cells #[.int .i64 x, .int .i64 y, .slice pb n cb] 26)) (row_next hb (unhide R6)))
    replace hO := hide (((unhide hO).next hb).next (al1_below w6 (.cells #[.int .i64 x, .int .i64 y, .slice pb n cb] 26)))
    replace hE := hide (((unhide hE).next hb).next (al1_below w6 (.cells #[.int .i64 x, .int .i64 y, .slice pb n cb] 26)))
    replace hOA := hide (((unhide hOA).next hb).next (al1_below w6 (.cells #[.int .i64 x, .int .i64 y, .slice pb n cb] 26)))
    replace hOB := hide ((hOB.low (unhide HB).size).next (al1_below w6 (.cells #[.int .i64 x, .int .i64 y, .slice pb n cb] 26)))
    replace HB := hide (below_two (below_two (unhide HB) hb) (al1_below w6 (.cells #[.int .i64 x, .int .i64 y, .slice pb n cb] 26)))
    clear hb
    generalize w6.alloc (.cells #[.int .i64 x, .int .i64 y, .slice pb n cb] 26) = W6 at R3 R4 R6 R8 HB hO hE hOA hOB ⊢
    generalize w6.heap.size = b8 at R8 ⊢
    have E2 := hide (EL x y f p n cp hn hcap (unhide hnone) x y f p n cp hn hcap (unhide hnone) mode 99 W6 (unhide hO).cols (unhide hO).cols)
    have ESL := hide (fun u => specLayOver_any x y f p n cp hn (unhide hnone) x y f p n cp hn mode 99 u)
    have hokC := lay_ok (mode := mode) (fade := 99) (x' := x) (y' := y) (n' := n) (f' := f) hok
    generalize layOn mode 99 x y n f x y n f = C at E2 ESL hokC
    obtain ⟨c0, c1, c2⟩ := row3 (unhide R3)
    go_wp2_with fail
    go_fit (unhide E2)
    rintro e w7 ⟨pc, cc, rfl, hOC, hb⟩
    clear E2 c0 c1 c2
    go_upto_region 9 with fail
    have HL := hide (show LO w (w7.alloc (.cells #[.int .i64 x, .int .i64 y, .slice pc n cc] 26)) b3 b4 b6 b8 w7.heap.size x y n p cp f pe ce pa ca A pb cb Bf pc cc C from
      ⟨row_next (al1_below _ _) (row_next hb (unhide R3)), row_next (al1_below _ _) (row_next hb (unhide R4)), row_next (al1_below _ _) (row_next hb (unhide R6)), row_next (al1_below _ _) (row_next hb (unhide R8)), new_row _ _, ((unhide hO).next hb).next (al1_below _ _), ((unhide hE).next hb).next (al1_below _ _), ((unhide hOA).next hb).next (al1_below _ _), ((unhide hOB).next hb).next (al1_below _ _), (hOC.low (unhide HB).size).next (al1_below _ _), below_two (below_two (unhide HB) hb) (al1_below _ _)⟩)
    clear hb hOC R3 R4 R6 R8 hO hE hOA hOB HB EL
    generalize w7.alloc (.cells #[.int .i64 x, .int .i64 y, .slice pc n cc] 26) = W7 at HL ⊢
    generalize w7.heap.size = b9 at HL ⊢
    have E2 := hide (EN 13 1 W7)
    go_wp2_with fail
    go_fit (unhide E2)
    intro e w8 hres
    obtain ⟨pw, cw, rfl, hb⟩ := new_wrong hres
    clear hres E2 EN
    replace HL := hide ((unhide HL).next hb)
    clear hb
    go_upto_region 10 with fail
    replace HL := hide ((unhide HL).next (al1_below w8 (.cells #[.int .i64 0, .int .i64 0, .slice pw 0 cw] 26)))
    generalize w8.alloc (.cells #[.int .i64 0, .int .i64 0, .slice pw 0 cw] 26) = W8 at HL ⊢
    generalize w8.heap.size = b10 at ⊢
    have EEa := hide (fun u => EE x y A pa n ca hn (unhide HL).ca.cap (unhide HL).ca.nocap x y f p n cp hn hcap (unhide hnone) u)
    rw [sameS_iff.2 ⟨rfl, rfl, rfl, unhide hA⟩] at EEa
    have EEb := hide (fun u => EE x y Bf pb n cb hn (unhide HL).cb.cap (unhide HL).cb.nocap x y f p n cp hn hcap (unhide hnone) u)
    rw [sameS_iff.2 ⟨rfl, rfl, rfl, unhide hBf⟩] at EEb
    have ESc := hide (fun u => ES x y C pc n cc hn (unhide HL).cc.cap (unhide HL).cc.nocap u)
    rw [surfOk_iff.2 hokC] at ESc
    have ESe := hide (fun u => ES x y (fun _ => clear4) pe n ce hn hcapE (unhide hnoneE) u)
    rw [surfOk_iff.2 (hok.congr (fun _ _ => (by decide)))] at ESe
    have ESS := hide (fun pz cz u => specSameSurface_any x y C pc n cc hn x y C pz n cz hn u)
    rw [sameS_iff.2 ⟨rfl, rfl, rfl, fun _ _ => rfl⟩] at ESS
    clear EE ES hA hBf
    replace hokC := hide hokC
    replace hok := hide hok
    have H0 := hide (show LO w W8.drew b3 b4 b6 b8 b9 x y n p cp f pe ce pa ca A pb cb Bf pc cc C from (unhide HL).next (Below.refl _ _).drew)
    obtain ⟨g0, g1, g2⟩ := row3 (unhide HL).ra
    obtain ⟨h0, h1, h2⟩ := row3 (unhide HL).rs
    go_region_law (first | (refine step_callG rfl 9 _ (by go_simp) (unhide EEa _ (unhide H0).ca.cols (unhide H0).cs.cols) ?_; rintro e w1 ⟨rfl, hb1⟩; refine ⟨_, rfl, ?_⟩; have H1 := hide ((unhide H0).next hb1); obtain ⟨i0, i1, i2⟩ := row3 (unhide H1).rb; obtain ⟨j0, j1, j2⟩ := row3 (unhide H1).rs; clear hb1) | (refine step_callG rfl 9 _ (by go_simp) (unhide EEb w1 (unhide H1).cb.cols (unhide H1).cs.cols) ?_; rintro e w2 ⟨rfl, hb2⟩; refine ⟨_, rfl, ?_⟩; have H2 := hide ((unhide H1).next hb2); obtain ⟨k0, k1, k2⟩ := row3 (unhide H2).rc; clear hb2) | (refine step_callG rfl 10 _ (by go_simp) (unhide ESc w2 (unhide H2).cc.cols) ?_; rintro e w3 ⟨rfl, hb3⟩; refine ⟨_, rfl, ?_⟩; have H3 := hide ((unhide H2).next hb3); obtain ⟨l0, l1, l2⟩ := row3 (unhide H3).rc; obtain ⟨m0, m1, m2⟩ := row3 (unhide H3).rs; clear hb3) | (refine step_callG rfl 12 _ (by go_simp) (unhide ESL w3 (unhide H3).cs.cols (unhide H3).cs.cols) ?_; rintro e w4 ⟨pz, cz, rfl, hOz, hb4⟩; refine ⟨_, rfl, ?_⟩; have H4 := hide ((unhide H3).next hb4); have hz4 := hide hOz; obtain ⟨s0, s1, s2⟩ := row3 (unhide H4).rc; clear hb4 hOz) | (refine step_callG rfl 11 _ (by go_simp) (unhide ESS pz cz w4 (unhide H4).cc.cols (unhide hz4).cols) ?_; rintro e w5 ⟨rfl, hb5⟩; refine ⟨_, rfl, ?_⟩; have H5 := hide ((unhide H4).next hb5); obtain ⟨t0, t1, t2⟩ := row3 (unhide H5).re; clear hb5) | (refine step_callG rfl 10 _ (by go_simp) (unhide ESe w5 (unhide H5).ce.cols) ?_; rintro e w6 ⟨rfl, hb6⟩; refine ⟨_, rfl, ?_⟩; have H6 := hide ((unhide H5).next hb6); clear hb6))
    all_goals
      go_wp2_with fail
      go_ret
      exact ⟨rfl, (unhide H6).hb⟩
  · go_enter Try.func3, Try.ntmps3
    go_wp2_with (go_at_call 4; go_must (refine (big_yes a0 len0 cap0 hl _).mono ?_); rintro e w1 ⟨rfl, rfl⟩)
    go_ret
    exact ⟨rfl, Below.refl _ _⟩
end Go.Proofs.Ythelfgippiimiac

/-
  The program's paints: right colours, laid ones, right paints.
-/
namespace Go.Proofs.Ythelfgippiimiac
open Go.RowKit
set_option linter.unusedVariables false

theorem implPartOk_any (x : Int) (w : World) :
    Calls Try.prog 39 #[.int .i64 x] w fun e w' => e = .returned (.bool (inB x 0 255)) ∧ w' = w := by
  by_cases h1 : 0 ≤ x
  · by_cases h2 : x ≤ 255
    · have H : Hid (true = inB x 0 255) := (inB_true.2 ⟨h1, h2⟩).symm
      go_enter Try.func39, Try.ntmps39
      go_wp2_with fail
      go_ret
      exact ⟨ret_bool (unhide H), rfl⟩
    · have H : Hid (false = inB x 0 255) := by unfold Hid inB; simp [h1, h2]
      go_enter Try.func39, Try.ntmps39
      go_wp2_with fail
      go_ret
      exact ⟨ret_bool (unhide H), rfl⟩
  · have H : Hid (false = inB x 0 255) := by unfold Hid inB; simp [h1]
    go_enter Try.func39, Try.ntmps39
    go_wp2_with fail
    go_ret
    exact ⟨ret_bool (unhide H), rfl⟩

set_option maxHeartbeats 4000000 in
set_option maxRecDepth 100000 in
theorem implColorOk_any (r g b a : Int) (w : World) :
    Calls Try.prog 43 #[.agg #[.int .i64 r, .int .i64 g, .int .i64 b, .int .i64 a]] w fun e w' => e = .returned (.bool (colorOkB ⟨r, g, b, a⟩)) ∧ Below w.heap.size w w' := by
  have E0 := hide (implPartOk_any r)
  have E1 := hide (implPartOk_any g)
  have E2 := hide (implPartOk_any b)
  have E3 := hide (implPartOk_any a)
  have H : Hid ((inB r 0 255 && (inB g 0 255 && (inB b 0 255 && inB a 0 255))) = colorOkB ⟨r, g, b, a⟩) := rfl
  generalize inB r 0 255 = i0 at E0 H
  generalize inB g 0 255 = i1 at E1 H
  generalize inB b 0 255 = i2 at E2 H
  generalize inB a 0 255 = i3 at E3 H
  generalize colorOkB ⟨r, g, b, a⟩ = X at H ⊢
  go_enter Try.func43, Try.ntmps43
  go_upto_region 1 with fail
  have R := hide (new_row w (.cells #[.int .i64 r, .int .i64 g, .int .i64 b, .int .i64 a] 42))
  have HB := hide (al1_below w (.cells #[.int .i64 r, .int .i64 g, .int .i64 b, .int .i64 a] 42))
  generalize w.alloc (.cells #[.int .i64 r, .int .i64 g, .int .i64 b, .int .i64 a] 42) = W at R HB ⊢
  obtain ⟨r0, r1, r2, r3⟩ := row4 (unhide R)
  go_wp2_with fail
  go_fit (unhide E0 _)
  rintro e u2 ⟨rfl, rfl⟩
  cases i0 with
  | false =>
    go_wp2_with fail
    go_ret
    exact ⟨ret_bool (unhide H), unhide HB⟩
  | true =>
  go_wp2_with fail
  go_fit (unhide E1 _)
  rintro e u2 ⟨rfl, rfl⟩
  cases i1 with
  | false =>
    go_wp2_with fail
    go_ret
    exact ⟨ret_bool (unhide H), unhide HB⟩
  | true =>
  go_wp2_with fail
  go_fit (unhide E2 _)
  rintro e u2 ⟨rfl, rfl⟩
  cases i2 with
  | false =>
    go_wp2_with fail
    go_ret
    exact ⟨ret_bool (unhide H), unhide HB⟩
  | true =>
  go_wp2_with fail
  go_fit (unhide E3 _)
  rintro e u2 ⟨rfl, rfl⟩
  go_wp2_with fail
  go_ret
  exact ⟨ret_bool (unhide H), unhide HB⟩

end Go.Proofs.Ythelfgippiimiac

/-
  The program's laid colours, thinned and faded ones: closures over closures. (By blendi.py.)
-/
namespace Go.Proofs.Ythelfgippiimiac
open Go.RowKit
set_option linter.unusedVariables false

set_option maxHeartbeats 4000000 in
set_option maxRecDepth 100000 in
theorem implLaidOk_any (r g b a : Int) (w : World) :
    Calls Try.prog 25 #[.agg #[.int .i64 r, .int .i64 g, .int .i64 b, .int .i64 a]] w fun e w' => e = .returned (.bool (laidOkB ⟨r, g, b, a⟩)) ∧ Below w.heap.size w w' := by
  have E := hide (implColorOk_any r g b a)
  have H : Hid ((colorOkB ⟨r, g, b, a⟩ && (decide (r ≤ a) && (decide (g ≤ a) && decide (b ≤ a)))) = laidOkB ⟨r, g, b, a⟩) := rfl
  generalize colorOkB ⟨r, g, b, a⟩ = X at E H
  generalize laidOkB ⟨r, g, b, a⟩ = Y at H ⊢
  go_enter Try.func25, Try.ntmps25
  go_upto_region 1 with fail
  have R := hide (new_row w (.cells #[.int .i64 r, .int .i64 g, .int .i64 b, .int .i64 a] 42))
  have HB := hide (al1_below w (.cells #[.int .i64 r, .int .i64 g, .int .i64 b, .int .i64 a] 42))
  generalize w.alloc (.cells #[.int .i64 r, .int .i64 g, .int .i64 b, .int .i64 a] 42) = W at R HB ⊢
  generalize w.heap.size = b1 at R ⊢
  obtain ⟨q0, q1, q2, q3⟩ := row4 (unhide R)
  go_wp2_with fail
  go_fit (unhide E _)
  rintro e u2 ⟨rfl, hb⟩
  replace R := hide (row_next hb (unhide R))
  replace HB := hide (below_two (unhide HB) hb)
  clear hb q0 q1 q2 q3
  obtain ⟨q0, q1, q2, q3⟩ := row4 (unhide R)
  cases X with
  | false =>
    go_wp2_with fail
    go_ret
    exact ⟨ret_bool (unhide H), unhide HB⟩
  | true =>
  cases d0 : decide (r ≤ a) with
  | false =>
    rw [d0] at H
    go_wp2_with fail
    go_ret
    exact ⟨ret_bool (unhide H), unhide HB⟩
  | true =>
  rw [d0] at H
  cases d1 : decide (g ≤ a) with
  | false =>
    rw [d1] at H
    go_wp2_with fail
    go_ret
    exact ⟨ret_bool (unhide H), unhide HB⟩
  | true =>
  rw [d1] at H
  cases d2 : decide (b ≤ a) with
  | false =>
    rw [d2] at H
    go_wp2_with fail
    go_ret
    exact ⟨ret_bool (unhide H), unhide HB⟩
  | true =>
    rw [d2] at H
    go_wp2_with fail
    go_ret
    exact ⟨ret_bool (unhide H), unhide HB⟩

theorem cell_lone {w1 : World} {b : Nat} {x : Value} {t : TypeId} (h : w1.heap[b]? = some (.cells #[x] t (0, 0))) : w1.cell? ⟨b, 0, none⟩ = some x := by simp [World.cell?, h]

set_option maxHeartbeats 8000000 in
set_option maxRecDepth 100000 in
theorem implEachPart_less (p : Nat) (r g b a m0 m1 m2 m3 : Int) (J : World → Prop) (jn : ∀ u u', J u → Below u.heap.size u u' → J u')
    (K0 : ∀ u, J u → Calls Try.prog 66 #[.int .i64 r, .int .i64 r, .pointer (some ⟨p, 0, none⟩)] u fun e u' => e = .returned (.int .i64 m0) ∧ Below u.heap.size u u')
    (K1 : ∀ u, J u → Calls Try.prog 66 #[.int .i64 g, .int .i64 g, .pointer (some ⟨p, 0, none⟩)] u fun e u' => e = .returned (.int .i64 m1) ∧ Below u.heap.size u u')
    (K2 : ∀ u, J u → Calls Try.prog 66 #[.int .i64 b, .int .i64 b, .pointer (some ⟨p, 0, none⟩)] u fun e u' => e = .returned (.int .i64 m2) ∧ Below u.heap.size u u')
    (K3 : ∀ u, J u → Calls Try.prog 66 #[.int .i64 a, .int .i64 a, .pointer (some ⟨p, 0, none⟩)] u fun e u' => e = .returned (.int .i64 m3) ∧ Below u.heap.size u u')
    (w : World) (h : J w) :
    Calls Try.prog 37 #[.agg #[.int .i64 r, .int .i64 g, .int .i64 b, .int .i64 a], .agg #[.int .i64 r, .int .i64 g, .int .i64 b, .int .i64 a], .func (.func 66) #[] #[.pointer (some ⟨p, 0, none⟩)]] w fun e w' => e = .returned (.agg #[.int .i64 m0, .int .i64 m1, .int .i64 m2, .int .i64 m3]) ∧ Below w.heap.size w w' := by
  replace K0 := hide K0
  replace K1 := hide K1
  replace K2 := hide K2
  replace K3 := hide K3
  go_enter Try.func37, Try.ntmps37
  go_upto_region 1 with fail
  have R1 := hide (al3_0 w (.cells #[.int .i64 r, .int .i64 g, .int .i64 b, .int .i64 a] 42) (.cells #[.int .i64 r, .int .i64 g, .int .i64 b, .int .i64 a] 42) (.cells #[.int .i64 0, .int .i64 0, .int .i64 0, .int .i64 0] 42))
  have R2 := hide (al3_1 w (.cells #[.int .i64 r, .int .i64 g, .int .i64 b, .int .i64 a] 42) (.cells #[.int .i64 r, .int .i64 g, .int .i64 b, .int .i64 a] 42) (.cells #[.int .i64 0, .int .i64 0, .int .i64 0, .int .i64 0] 42))
  have R3 := hide (al3_2 w (.cells #[.int .i64 r, .int .i64 g, .int .i64 b, .int .i64 a] 42) (.cells #[.int .i64 r, .int .i64 g, .int .i64 b, .int .i64 a] 42) (.cells #[.int .i64 0, .int .i64 0, .int .i64 0, .int .i64 0] 42))
  have HB := hide (al3_below w (.cells #[.int .i64 r, .int .i64 g, .int .i64 b, .int .i64 a] 42) (.cells #[.int .i64 r, .int .i64 g, .int .i64 b, .int .i64 a] 42) (.cells #[.int .i64 0, .int .i64 0, .int .i64 0, .int .i64 0] 42))
  have cq := jn _ _ h (unhide HB)
  obtain ⟨b3, hb3⟩ : ∃ b, Hid (b = w.heap.size + 1 + 1) := ⟨_, rfl⟩
  obtain ⟨b2, hb2⟩ : ∃ b, Hid (b = w.heap.size + 1) := ⟨_, rfl⟩
  obtain ⟨b1, hb1⟩ : ∃ b, Hid (b = w.heap.size) := ⟨_, rfl⟩
  have lz : Hid (w.heap.size ≤ b3 ∧ b1 < b3 ∧ b2 < b3) := by unfold Hid; rw [unhide hb3, unhide hb2, unhide hb1]; omega
  rw [← unhide hb3] at R3
  rw [← unhide hb2] at R2
  rw [← unhide hb1] at R1
  rw [← unhide hb3, ← unhide hb2, ← unhide hb1]
  generalize ((w.alloc (.cells #[.int .i64 r, .int .i64 g, .int .i64 b, .int .i64 a] 42)).alloc (.cells #[.int .i64 r, .int .i64 g, .int .i64 b, .int .i64 a] 42)).alloc (.cells #[.int .i64 0, .int .i64 0, .int .i64 0, .int .i64 0] 42) = W at R1 R2 R3 HB cq ⊢
  clear hb3 hb2 hb1 h
  have ne1 : ¬ b3 = b1 := by have := unhide lz; omega
  have ne2 : ¬ b1 = b3 := by have := unhide lz; omega
  have ne3 : ¬ b3 = b2 := by have := unhide lz; omega
  have ne4 : ¬ b2 = b3 := by have := unhide lz; omega
  have l6 := hide (show b3 ≤ W.heap.size from Nat.le_of_lt (heap_lt (unhide R3)))
  have cq0 := hide (jn _ _ cq (Below.refl W.heap.size W).drew)
  replace cq := hide cq
  have k0 := hide (show ∀ u, Below b3 W u → (u.cell? ⟨b1, 0, none⟩ = some (.int .i64 r) ∧ u.cell? ⟨b1, 1, none⟩ = some (.int .i64 g) ∧ u.cell? ⟨b1, 2, none⟩ = some (.int .i64 b) ∧ u.cell? ⟨b1, 3, none⟩ = some (.int .i64 a) ∧ u.cell? ⟨b2, 0, none⟩ = some (.int .i64 r) ∧ u.cell? ⟨b2, 1, none⟩ = some (.int .i64 g) ∧ u.cell? ⟨b2, 2, none⟩ = some (.int .i64 b) ∧ u.cell? ⟨b2, 3, none⟩ = some (.int .i64 a) ∧ Below b3 W u) from fun u h => by
    obtain ⟨c0, c1, c2, c3⟩ := row4 ((h.block b1 (unhide lz).2.1).trans (unhide R1))
    obtain ⟨d0, d1, d2, d3⟩ := row4 ((h.block b2 (unhide lz).2.2).trans (unhide R2))
    exact ⟨c0, c1, c2, c3, d0, d1, d2, d3, h⟩)
  have k1 := hide (show ∀ u, Below W.heap.size W u → (u.cell? ⟨b3, 0, none⟩ = some (.int .i64 0) ∧ u.cell? ⟨b3, 1, none⟩ = some (.int .i64 0) ∧ u.cell? ⟨b3, 2, none⟩ = some (.int .i64 0) ∧ u.cell? ⟨b3, 3, none⟩ = some (.int .i64 0) ∧ u.frozen? ⟨b3, 0, none⟩ = false ∧ u.frozen? ⟨b3, 1, none⟩ = false ∧ u.frozen? ⟨b3, 2, none⟩ = false ∧ u.frozen? ⟨b3, 3, none⟩ = false) from fun u h => by
    obtain ⟨e0, e1, e2, e3⟩ := row4 (row_next h (unhide R3))
    obtain ⟨f0, f1, f2, f3⟩ := free4 (row_next h (unhide R3))
    exact ⟨e0, e1, e2, e3, f0, f1, f2, f3⟩)
  have k00 := hide (unhide k0 _ (Below.refl _ _).drew)
  replace jn := hide jn
  go_region_held3 (fun u => u.cell? ⟨b1, 0, none⟩ = some (.int .i64 r) ∧ u.cell? ⟨b1, 1, none⟩ = some (.int .i64 g) ∧ u.cell? ⟨b1, 2, none⟩ = some (.int .i64 b) ∧ u.cell? ⟨b1, 3, none⟩ = some (.int .i64 a) ∧ u.cell? ⟨b2, 0, none⟩ = some (.int .i64 r) ∧ u.cell? ⟨b2, 1, none⟩ = some (.int .i64 g) ∧ u.cell? ⟨b2, 2, none⟩ = some (.int .i64 b) ∧ u.cell? ⟨b2, 3, none⟩ = some (.int .i64 a) ∧ Below b3 W u) ((first | with_reducible exact unhide k00 | (with_reducible refine unhide k0 _ ?_; first | with_reducible exact Below.mono (by assumption) (unhide l6) | (with_reducible refine below_put4 ?_ (Nat.le_refl _) _ _ _ _; with_reducible exact Below.mono (by assumption) (unhide l6))))) (first | (go_at_call 66; go_fit (unhide K0 _ (unhide cq0)); rintro e w4 ⟨rfl, hb1⟩; have h1 := below_undrew hb1; have cq1 := hide (unhide jn _ _ (unhide cq) h1); clear hb1) | (go_at_call 66; go_fit (unhide K1 _ (unhide cq1)); rintro e w5 ⟨rfl, hb2⟩; have h2 := below_two h1 hb2; clear h1 cq1; have cq2 := hide (unhide jn _ _ (unhide cq) h2); clear hb2) | (go_at_call 66; go_fit (unhide K2 _ (unhide cq2)); rintro e w6 ⟨rfl, hb3⟩; have h3 := below_two h2 hb3; clear h2 cq2; have cq3 := hide (unhide jn _ _ (unhide cq) h3); clear hb3) | (go_at_call 66; go_fit (unhide K3 _ (unhide cq3)); rintro e w7 ⟨rfl, hb4⟩; have h4 := below_two h3 hb4; clear h3 cq3; clear hb4; obtain ⟨e0, e1, e2, e3, f0, f1, f2, f3⟩ := unhide k1 _ h4))
  all_goals
    go_wp2_with fail
    refine bodyPost_ret (v := .agg #[.int .i64 m0, .int .i64 m1, .int .i64 m2, .int .i64 m3]) (by simp [results, Try.results37, go_sem, e0, e1, e2, e3]) rfl ⟨rfl, ?_⟩
    exact below_put4 (below_two (unhide HB) h4) (unhide lz).1 _ _ _ _

theorem implFade1_any (q : Nat) (x n : Int) (hx : 0 ≤ x ∧ x ≤ 255) (hn : 0 ≤ n ∧ n ≤ 255) (w : World) (h : w.cell? ⟨q, 0, none⟩ = some (.int .i64 n)) :
    Calls Try.prog 41 #[.int .i64 x, .pointer (some ⟨q, 0, none⟩)] w fun e w' => e = .returned (.int .i64 (t255I x n)) ∧ Below w.heap.size w w' := by
  have E := hide (implTimes255_any x n)
  generalize t255I x n = V at E ⊢
  clear hx hn
  go_enter Try.func41, Try.ntmps41
  go_wp2_with fail
  go_fit (unhide E _)
  rintro e w1 ⟨rfl, hb⟩
  go_wp2_with fail
  go_ret
  exact ⟨rfl, hb⟩

theorem implLess1_fade (p q : Nat) (x y n : Int) (hx : 0 ≤ x ∧ x ≤ 255) (hn : 0 ≤ n ∧ n ≤ 255) (w : World) (hp : w.cell? ⟨p, 0, none⟩ = some (.func (.func 41) #[] #[.pointer (some ⟨q, 0, none⟩)])) (h : w.cell? ⟨q, 0, none⟩ = some (.int .i64 n)) :
    Calls Try.prog 66 #[.int .i64 x, .int .i64 y, .pointer (some ⟨p, 0, none⟩)] w fun e w' => e = .returned (.int .i64 (t255I x n)) ∧ Below w.heap.size w w' := by
  have E := hide (fun u h => implFade1_any q x n hx hn u h)
  generalize t255I x n = V at E ⊢
  clear hx hn
  go_enter Try.func66, Try.ntmps66
  go_wp2_with fail
  go_fit (unhide E _ h)
  rintro e w1 ⟨rfl, hb⟩
  go_wp2_with fail
  go_ret
  exact ⟨rfl, hb⟩

set_option maxHeartbeats 4000000 in
set_option maxRecDepth 100000 in
theorem implLessened_fade (q : Nat) (r g b a n : Int) (h0 : 0 ≤ r ∧ r ≤ 255) (h1 : 0 ≤ g ∧ g ≤ 255) (h2 : 0 ≤ b ∧ b ≤ 255) (h3 : 0 ≤ a ∧ a ≤ 255) (hn : 0 ≤ n ∧ n ≤ 255) (w : World) (h : w.cell? ⟨q, 0, none⟩ = some (.int .i64 n)) :
    Calls Try.prog 40 #[.agg #[.int .i64 r, .int .i64 g, .int .i64 b, .int .i64 a], .func (.func 41) #[] #[.pointer (some ⟨q, 0, none⟩)]] w fun e w' => e = .returned (.agg #[.int .i64 (t255I r n), .int .i64 (t255I g n), .int .i64 (t255I b n), .int .i64 (t255I a n)]) ∧ Below w.heap.size w w' := by
  have EE := hide (fun p => implEachPart_less p r g b a (t255I r n) (t255I g n) (t255I b n) (t255I a n) (fun u => u.cell? ⟨p, 0, none⟩ = some (.func (.func 41) #[] #[.pointer (some ⟨q, 0, none⟩)]) ∧ u.cell? ⟨q, 0, none⟩ = some (.int .i64 n)) (fun u u' j hb => ⟨kc hb j.1, kc hb j.2⟩)
    (fun u j => implLess1_fade p q r r n h0 hn u j.1 j.2) (fun u j => implLess1_fade p q g g n h1 hn u j.1 j.2) (fun u j => implLess1_fade p q b b n h2 hn u j.1 j.2) (fun u j => implLess1_fade p q a a n h3 hn u j.1 j.2))
  generalize t255I r n = m0 at EE ⊢
  generalize t255I g n = m1 at EE ⊢
  generalize t255I b n = m2 at EE ⊢
  generalize t255I a n = m3 at EE ⊢
  clear h0 h1 h2 h3 hn
  go_enter Try.func40, Try.ntmps40
  go_upto_region 1 with fail
  have R1 := hide (al3_0 w (.cells #[.int .i64 r, .int .i64 g, .int .i64 b, .int .i64 a] 42) (.cells #[.func (.func 41) #[] #[.pointer (some ⟨q, 0, none⟩)]] 76) (.cells #[.int .i64 0, .int .i64 0, .int .i64 0, .int .i64 0] 42))
  have R2 := hide (al3_1 w (.cells #[.int .i64 r, .int .i64 g, .int .i64 b, .int .i64 a] 42) (.cells #[.func (.func 41) #[] #[.pointer (some ⟨q, 0, none⟩)]] 76) (.cells #[.int .i64 0, .int .i64 0, .int .i64 0, .int .i64 0] 42))
  have R3 := hide (al3_2 w (.cells #[.int .i64 r, .int .i64 g, .int .i64 b, .int .i64 a] 42) (.cells #[.func (.func 41) #[] #[.pointer (some ⟨q, 0, none⟩)]] 76) (.cells #[.int .i64 0, .int .i64 0, .int .i64 0, .int .i64 0] 42))
  have HB := hide (al3_below w (.cells #[.int .i64 r, .int .i64 g, .int .i64 b, .int .i64 a] 42) (.cells #[.func (.func 41) #[] #[.pointer (some ⟨q, 0, none⟩)]] 76) (.cells #[.int .i64 0, .int .i64 0, .int .i64 0, .int .i64 0] 42))
  have cq := hide (kc (unhide HB) h)
  obtain ⟨b3, hb3⟩ : ∃ b, Hid (b = w.heap.size + 1 + 1) := ⟨_, rfl⟩
  obtain ⟨b2, hb2⟩ : ∃ b, Hid (b = w.heap.size + 1) := ⟨_, rfl⟩
  obtain ⟨b1, hb1⟩ : ∃ b, Hid (b = w.heap.size) := ⟨_, rfl⟩
  have lz : Hid (w.heap.size ≤ b3 ∧ b1 < b3 ∧ b2 < b3) := by unfold Hid; rw [unhide hb3, unhide hb2, unhide hb1]; omega
  rw [← unhide hb3] at R3
  rw [← unhide hb2] at R2
  rw [← unhide hb1] at R1
  rw [← unhide hb3, ← unhide hb2, ← unhide hb1]
  generalize ((w.alloc (.cells #[.int .i64 r, .int .i64 g, .int .i64 b, .int .i64 a] 42)).alloc (.cells #[.func (.func 41) #[] #[.pointer (some ⟨q, 0, none⟩)]] 76)).alloc (.cells #[.int .i64 0, .int .i64 0, .int .i64 0, .int .i64 0] 42) = W at R1 R2 R3 HB cq ⊢
  clear hb3 hb2 hb1 h
  obtain ⟨c0, c1, c2, c3⟩ := row4 (unhide R1)
  go_wp2_with fail
  go_fit (unhide EE _ _ ⟨cell_lone (unhide R2), unhide cq⟩)
  rintro e w1 ⟨rfl, hb⟩
  replace R3 := hide (row_next hb (unhide R3))
  replace HB := hide (below_two (unhide HB) hb)
  clear hb c0 c1 c2 c3
  obtain ⟨e0, e1, e2, e3⟩ := row4 (unhide R3)
  obtain ⟨f0, f1, f2, f3⟩ := free4 (unhide R3)
  go_wp2_with fail
  refine bodyPost_ret (v := .agg #[.int .i64 m0, .int .i64 m1, .int .i64 m2, .int .i64 m3]) (by simp [results, Try.results40, go_sem, e0, e1, e2, e3]) rfl ⟨rfl, ?_⟩
  exact below_put4 (unhide HB) (unhide lz).1 _ _ _ _

set_option maxHeartbeats 8000000 in
set_option maxRecDepth 100000 in
theorem implFade_any (r g b a n : Int) (w : World) :
    Calls Try.prog 20 #[.agg #[.int .i64 r, .int .i64 g, .int .i64 b, .int .i64 a], .int .i64 n] w fun e w' => e = .returned (.agg #[.int .i64 ((fadeC ⟨r, g, b, a⟩ n).x0), .int .i64 ((fadeC ⟨r, g, b, a⟩ n).y0), .int .i64 ((fadeC ⟨r, g, b, a⟩ n).x1), .int .i64 ((fadeC ⟨r, g, b, a⟩ n).y1)]) ∧ Below w.heap.size w w' := by
  have E := hide (implLaidOk_any r g b a)
  have hH : Hid (fadeC ⟨r, g, b, a⟩ n = if laidOkB ⟨r, g, b, a⟩ = true ∧ inB n 0 255 = true then ⟨t255I r n, t255I g n, t255I b n, t255I a n⟩ else ⟨0, 0, 0, 0⟩) := rfl
  have hok : Hid (laidOkB ⟨r, g, b, a⟩ = true → ((0 ≤ r ∧ r ≤ 255) ∧ (0 ≤ g ∧ g ≤ 255) ∧ (0 ≤ b ∧ b ≤ 255) ∧ (0 ≤ a ∧ a ≤ 255))) := fun h => by
    have h1 := laidOk_iff.1 h
    dsimp only at h1
    omega
  generalize laidOkB ⟨r, g, b, a⟩ = X at E hH hok
  generalize fadeC ⟨r, g, b, a⟩ n = C at hH ⊢
  go_enter Try.func20, Try.ntmps20
  go_upto_region 1 with fail
  have R1 := hide (al3_0 w (.cells #[.int .i64 r, .int .i64 g, .int .i64 b, .int .i64 a] 42) (.cells #[.int .i64 n] 3) (.cells #[.int .i64 0, .int .i64 0, .int .i64 0, .int .i64 0] 42))
  have R2 := hide (al3_1 w (.cells #[.int .i64 r, .int .i64 g, .int .i64 b, .int .i64 a] 42) (.cells #[.int .i64 n] 3) (.cells #[.int .i64 0, .int .i64 0, .int .i64 0, .int .i64 0] 42))
  have R3 := hide (al3_2 w (.cells #[.int .i64 r, .int .i64 g, .int .i64 b, .int .i64 a] 42) (.cells #[.int .i64 n] 3) (.cells #[.int .i64 0, .int .i64 0, .int .i64 0, .int .i64 0] 42))
  have HB := hide (al3_below w (.cells #[.int .i64 r, .int .i64 g, .int .i64 b, .int .i64 a] 42) (.cells #[.int .i64 n] 3) (.cells #[.int .i64 0, .int .i64 0, .int .i64 0, .int .i64 0] 42))
  obtain ⟨b3, hb3⟩ : ∃ b, Hid (b = w.heap.size + 1 + 1) := ⟨_, rfl⟩
  obtain ⟨b2, hb2⟩ : ∃ b, Hid (b = w.heap.size + 1) := ⟨_, rfl⟩
  obtain ⟨b1, hb1⟩ : ∃ b, Hid (b = w.heap.size) := ⟨_, rfl⟩
  have lz : Hid (w.heap.size ≤ b3 ∧ b1 < b3 ∧ b2 < b3) := by unfold Hid; rw [unhide hb3, unhide hb2, unhide hb1]; omega
  rw [← unhide hb3] at R3
  rw [← unhide hb2] at R2
  rw [← unhide hb1] at R1
  rw [← unhide hb3, ← unhide hb2, ← unhide hb1]
  generalize ((w.alloc (.cells #[.int .i64 r, .int .i64 g, .int .i64 b, .int .i64 a] 42)).alloc (.cells #[.int .i64 n] 3)).alloc (.cells #[.int .i64 0, .int .i64 0, .int .i64 0, .int .i64 0] 42) = W at R1 R2 R3 HB ⊢
  clear hb3 hb2 hb1
  obtain ⟨q0, q1, q2, q3⟩ := row4 (unhide R1)
  go_wp2_with fail
  go_fit (unhide E _)
  rintro e w1 ⟨rfl, hb⟩
  replace R1 := hide (row_next hb (unhide R1))
  replace R2 := hide (row_next hb (unhide R2))
  replace R3 := hide (row_next hb (unhide R3))
  replace HB := hide (below_two (unhide HB) hb)
  clear hb q0 q1 q2 q3
  obtain ⟨q0, q1, q2, q3⟩ := row4 (unhide R1)
  have n0 := cell_lone (unhide R2)
  obtain ⟨e0, e1, e2, e3⟩ := row4 (unhide R3)
  obtain ⟨f0, f1, f2, f3⟩ := free4 (unhide R3)
  cases X with
  | false =>
    have hC := hide (show C = ⟨0, 0, 0, 0⟩ by rw [unhide hH]; exact if_neg (fun e => absurd e.1 (by decide)))
    go_wp2_with fail
    refine bodyPost_ret (v := .agg #[.int .i64 0, .int .i64 0, .int .i64 0, .int .i64 0]) (by simp [results, Try.results20, go_sem, e0, e1, e2, e3]) rfl ⟨by rw [unhide hC], ?_⟩
    exact below_put4 (unhide HB) (unhide lz).1 _ _ _ _
  | true =>
  have EN := hide (implPartOk_any n)
  have hn1 : Hid (inB n 0 255 = true → (0 ≤ n ∧ n ≤ 255)) := fun h => inB_true.1 h
  generalize inB n 0 255 = Y at EN hH hn1
  go_wp2_with fail
  go_fit (unhide EN _)
  rintro e u2 ⟨rfl, rfl⟩
  cases Y with
  | false =>
    have hC := hide (show C = ⟨0, 0, 0, 0⟩ by rw [unhide hH]; exact if_neg (fun e => absurd e.2 (by decide)))
    go_wp2_with fail
    refine bodyPost_ret (v := .agg #[.int .i64 0, .int .i64 0, .int .i64 0, .int .i64 0]) (by simp [results, Try.results20, go_sem, e0, e1, e2, e3]) rfl ⟨by rw [unhide hC], ?_⟩
    exact below_put4 (unhide HB) (unhide lz).1 _ _ _ _
  | true =>
  have hin := unhide hn1 (by trivial)
  have hC := hide (show C = ⟨t255I r n, t255I g n, t255I b n, t255I a n⟩ by rw [unhide hH]; exact if_pos ⟨by trivial, by trivial⟩)
  obtain ⟨p0, p1, p2, p3⟩ := unhide hok (by trivial)
  have EL := hide (fun q u h => implLessened_fade q r g b a n p0 p1 p2 p3 hin u h)
  generalize t255I r n = m0 at EL hC
  generalize t255I g n = m1 at EL hC
  generalize t255I b n = m2 at EL hC
  generalize t255I a n = m3 at EL hC
  clear p0 p1 p2 p3 hok hH E
  go_wp2_with fail
  go_fit (unhide EL _ _ n0)
  rintro e w2 ⟨rfl, hb⟩
  replace R3 := hide (row_next hb (unhide R3))
  replace HB := hide (below_two (unhide HB) hb)
  clear hb q0 q1 q2 q3 n0 e0 e1 e2 e3 f0 f1 f2 f3
  obtain ⟨e0, e1, e2, e3⟩ := row4 (unhide R3)
  obtain ⟨f0, f1, f2, f3⟩ := free4 (unhide R3)
  go_wp2_with fail
  refine bodyPost_ret (v := .agg #[.int .i64 m0, .int .i64 m1, .int .i64 m2, .int .i64 m3]) (by simp [results, Try.results20, go_sem, e0, e1, e2, e3]) rfl ⟨by rw [unhide hC], ?_⟩
  exact below_put4 (unhide HB) (unhide lz).1 _ _ _ _

end Go.Proofs.Ythelfgippiimiac

/-
  The walks of the program's chapter 5: boxes.
-/
namespace Go.Proofs.Ythelfgippiimiac
open Go.RowKit

end Go.Proofs.Ythelfgippiimiac

/-
  The program's surfaces: sides, places, right surfaces, new ones, their squares, copies.
-/
namespace Go.Proofs.Ythelfgippiimiac
open Go.RowKit
set_option linter.unusedVariables false

theorem implSideOk_any (x : Int) (w : World) :
    Calls Try.prog 15 #[.int .i64 x] w fun e w' => e = .returned (.bool (inB x 1 12)) ∧ w' = w := by
  by_cases h1 : 1 ≤ x
  · by_cases h2 : x ≤ 12
    · have H : Hid (true = inB x 1 12) := (inB_true.2 ⟨h1, h2⟩).symm
      go_enter Try.func15, Try.ntmps15
      go_wp2_with fail
      go_ret
      exact ⟨ret_bool (unhide H), rfl⟩
    · have H : Hid (false = inB x 1 12) := by unfold Hid inB; simp [h1, h2]
      go_enter Try.func15, Try.ntmps15
      go_wp2_with fail
      go_ret
      exact ⟨ret_bool (unhide H), rfl⟩
  · have H : Hid (false = inB x 1 12) := by unfold Hid inB; simp [h1]
    go_enter Try.func15, Try.ntmps15
    go_wp2_with fail
    go_ret
    exact ⟨ret_bool (unhide H), rfl⟩

set_option maxHeartbeats 4000000 in
theorem implPixPlace_any (x y px py : Int) (v : Value) (h1 : IntKind.i64.wrap (py * x) = py * x) (h2 : IntKind.i64.wrap (py * x + px) = py * x + px) (w : World) :
    Calls Try.prog 21 #[.agg #[.int .i64 x, .int .i64 y, v], .int .i64 px, .int .i64 py] w fun r w' => r = .returned (.int .i64 (py * x + px)) ∧ Below w.heap.size w w' := by
  go_enter Try.func21, Try.ntmps21
  go_wp2_with fail
  go_ret
  exact ⟨rfl, al1_below _ _⟩

theorem notNilCols (w : World) (a : Addr) (n c : Nat) : (binOp .eql 24 (.slice (some a) n c) (.slice none 0 0)).run Try.prog w = .ok (.bool false) w := by kernel_rfl
theorem nilCols (w : World) : (binOp .eql 24 (.slice none 0 0) (.slice none 0 0)).run Try.prog w = .ok (.bool true) w := by kernel_rfl

attribute [local go_sem ↓] notNilCols nilCols in
set_option maxHeartbeats 4000000 in
theorem cloneCols_any (f : Nat → B4) (ao : Option Addr) (n c : Nat) (hn : n ≤ 1048576) (hc : n ≤ c) (hao : ao = none → c = 0) (w : World) (P : ∀ i, i < n → ClAt w ao i (f i)) :
    Calls Try.prog 35 #[.slice ao n c] w fun r w' => ∃ av cv, r = .returned (.slice av n cv) ∧ ColsV w' w.heap.size (.slice av n cv) n f ∧ Below w.heap.size w w' := by
  cases ao with
  | none =>
    obtain rfl := hao rfl
    obtain rfl : n = 0 := by omega
    go_enter Try.func35, Try.ntmps35
    go_wp2_with fail
    go_ret
    exact ⟨_, _, rfl, cols_none _ _ _, Below.refl _ _⟩
  | some ad =>
    obtain ⟨i1, hi1, hz1, hs1, hb1⟩ := info_parts infoColor
    have oE := hide (show (w.alloc (.cells #[] 42)).ownsRow w.heap.size 42 4 (.slice (some ⟨w.heap.size, 0, none⟩) 0 0) 0 [] from World.ownsRow_lit w #[] 0 (Nat.le_refl _) (by decide) rfl)
    have VE := hide (show ∀ j u, (colsL f n)[j]? = some u → (w.alloc (.cells #[] 42)).cell? (ad.add j) = some u from by
      rcases Nat.eq_zero_or_pos n with h0 | h0
      · subst h0; intro j u hu; simp [colsL, csV] at hu
      · obtain ⟨s0, o0, e, _⟩ := P 0 h0
        cases e
        exact colsL_cells (fun i hi => (P i hi).next (al1_below w (.cells #[] 42))))
    clear P
    go_enter Try.func35, Try.ntmps35
    go_wp2_with (at_builtin; go_must (refine wpList_append_own (w.alloc (.cells #[] 42)) rfl _ _ 24 rfl w.heap.size 42 i1 (.agg #[.int .i64 0, .int .i64 0, .int .i64 0, .int .i64 0]) 4 32 Try.underlying24 hi1 hz1 hs1 hb1 rfl (by decide) _ 0 [] (by rfl) (unhide oE) ad n c (colsL f n) (by rfl) (colsL_len f n) (unhide VE) (colsL_one f n) (by unfold maxLen; omega) (by omega) (by simp) ?_); intro v1 w3 ho hg _; rw [Nat.zero_add, List.nil_append] at ho; obtain ⟨av, cv, rfl⟩ := own_form ho; have O1 := hide ho; have G3 := hide hg; clear ho hg)
    replace G3 := hide (below_of_grown (B := w.heap.size) (unhide G3) (by simp) (fun k hk => by simp [Value.ownBlock] at hk; omega))
    replace G3 := hide ((al1_below w (.cells #[] 42)).trans (unhide G3))
    go_ret
    exact ⟨av, cv, rfl, ⟨_, unhide O1, colsL_at f n⟩, unhide G3⟩

set_option maxHeartbeats 8000000 in
set_option maxRecDepth 100000 in
theorem implSurfaceCopy_any (x y : Int) (f : Nat → B4) (ao : Option Addr) (n cp : Nat) (hn : n ≤ 1048576) (hc : n ≤ cp) (hao : ao = none → cp = 0) (w : World) (P : ∀ i, i < n → ClAt w ao i (f i)) :
    Calls Try.prog 16 #[.agg #[.int .i64 x, .int .i64 y, .slice ao n cp]] w fun r w' => SurfRes w r w' x y n f := by
  have EC := hide (fun u (hu : Below w.heap.size w u) => cloneCols_any f ao n cp hn hc hao u (fun i hi => (P i hi).next hu))
  clear P
  unfold SurfRes
  go_enter Try.func16, Try.ntmps16
  go_upto_region 1 with fail
  have R := hide (al2_0 w (.cells #[.int .i64 x, .int .i64 y, .slice ao n cp] 26) (.cells #[.int .i64 0, .int .i64 0, .slice none 0 0] 26))
  have R2 := hide (al2_1 w (.cells #[.int .i64 x, .int .i64 y, .slice ao n cp] 26) (.cells #[.int .i64 0, .int .i64 0, .slice none 0 0] 26))
  have HB := hide (al2_below w (.cells #[.int .i64 x, .int .i64 y, .slice ao n cp] 26) (.cells #[.int .i64 0, .int .i64 0, .slice none 0 0] 26))
  obtain ⟨b2, hb2⟩ : ∃ b, Hid (b = w.heap.size + 1) := ⟨_, rfl⟩
  obtain ⟨b1, hb1⟩ : ∃ b, Hid (b = w.heap.size) := ⟨_, rfl⟩
  have lz : Hid (w.heap.size ≤ b2 ∧ b1 < b2) := by unfold Hid; rw [unhide hb2, unhide hb1]; omega
  rw [← unhide hb2] at R2
  rw [← unhide hb1] at R
  rw [← unhide hb2, ← unhide hb1]
  generalize (w.alloc (.cells #[.int .i64 x, .int .i64 y, .slice ao n cp] 26)).alloc (.cells #[.int .i64 0, .int .i64 0, .slice none 0 0] 26) = W at R R2 HB ⊢
  clear hb2 hb1
  have l6 := hide (show b2 < W.heap.size from heap_lt (unhide R2))
  have ne1 : ¬ b2 = b1 := by have := unhide lz; omega
  have ne2 : ¬ b1 = b2 := by have := unhide lz; omega
  have k0 := hide (show ∀ u, Below b2 W u → (u.cell? ⟨b1, 0, none⟩ = some (.int .i64 x) ∧ u.cell? ⟨b1, 1, none⟩ = some (.int .i64 y) ∧ u.cell? ⟨b1, 2, none⟩ = some (.slice ao n cp) ∧ Below b2 W u) from fun u h => by
    obtain ⟨c0, c1, c2⟩ := row3 ((h.block b1 (unhide lz).2).trans (unhide R))
    exact ⟨c0, c1, c2, h⟩)
  have k00 := hide (unhide k0 _ (Below.refl _ _).drew)
  have EC0 := hide (unhide EC _ (unhide HB).drew)
  clear EC
  go_region_held3 (fun u => u.cell? ⟨b1, 0, none⟩ = some (.int .i64 x) ∧ u.cell? ⟨b1, 1, none⟩ = some (.int .i64 y) ∧ u.cell? ⟨b1, 2, none⟩ = some (.slice ao n cp) ∧ Below b2 W u) ((first | with_reducible exact unhide k00 | (with_reducible refine unhide k0 _ ?_; first | with_reducible assumption | with_reducible exact Below.mono (by assumption) (Nat.le_of_lt (unhide l6)) | (with_reducible refine below_put3 ?_ (Nat.le_refl _) _ _ _; with_reducible exact Below.mono (by assumption) (Nat.le_of_lt (unhide l6)))))) (first | (go_at_call 35; go_fit (unhide EC0); rintro r w6 ⟨p6, c6, rfl, hc6, hb6'⟩; have hb6 := below_undrew hb6'; clear hb6'; obtain ⟨e0, e1, e2⟩ := row3 (row_next hb6 (unhide R2)); obtain ⟨f0, f1, f2⟩ := frozen3 (row_next hb6 (unhide R2)); replace hc6 := hide hc6))
  all_goals
    go_wp2_with fail
    refine bodyPost_ret (v := .agg #[.int .i64 x, .int .i64 y, .slice p6 n c6]) (by simp [results, Try.results16, go_sem, e0, e1, e2]) rfl ⟨p6, c6, rfl, ?_, ?_⟩
    · obtain ⟨xs6, o6, x6⟩ := unhide hc6
      exact ⟨xs6, own_low (own_put3 o6 (fun k hk => by have h1 : W.heap.size ≤ k := (o6.lt k hk).1; have := unhide l6; omega) _ _ _) (unhide HB).size, x6⟩
    · exact below_put3 (below_two (unhide HB) hb6) (unhide lz).1 _ _ _

set_option maxHeartbeats 4000000 in
set_option maxRecDepth 100000 in
theorem implSurfaceNew_any (x y : Int) (w : World) : Calls Try.prog 6 #[.int .i64 x, .int .i64 y] w fun r w' => NewRes w r w' x y := by
  obtain ⟨i0, hi, hz0, hz1, hz2⟩ := info_parts infoColor
  have EX := hide (implSideOk_any x)
  have EY := hide (implSideOk_any y)
  unfold NewRes newX newY newN
  by_cases hok : newOkB x y = true
  · have h' := newOk_iff.1 hok
    have hpr := side_prod h'.1 h'.2
    have vw : IntKind.i64.wrap (x * y) = x * y := IntWalk.i64_in _ (by omega)
    rw [inB_true.2 h'.1] at EX
    rw [inB_true.2 h'.2] at EY
    rw [if_pos hok, if_pos hok, if_pos hok, hok]
    obtain ⟨n, hnn⟩ : ∃ n : Nat, x * y = (n : Int) := ⟨(x * y).toNat, by omega⟩
    rw [hnn] at hpr vw ⊢
    have e1 : ((n : Int)).toNat = n := by omega
    rw [e1]
    replace hok := hide hok
    go_enter Try.func6, Try.ntmps6
    go_upto_region 1 with fail
    have R := hide (new_row w (.cells #[.int .i64 0, .int .i64 0, .slice none 0 0] 26))
    have HB := hide (al1_below w (.cells #[.int .i64 0, .int .i64 0, .slice none 0 0] 26))
    obtain ⟨b4, hb4⟩ : ∃ b, Hid (b = w.heap.size) := ⟨_, rfl⟩
    have lz : Hid (w.heap.size ≤ b4) := by unfold Hid; rw [unhide hb4]; omega
    rw [← unhide hb4] at R
    rw [← unhide hb4]
    generalize w.alloc (.cells #[.int .i64 0, .int .i64 0, .slice none 0 0] 26) = W at R HB ⊢
    clear hb4
    go_wp2_with fail
    go_fit (unhide EX _)
    rintro r u1 ⟨rfl, hu⟩
    rw [hu]
    clear hu u1
    go_wp2_with fail
    go_fit (unhide EY _)
    rintro r u2 ⟨rfl, hu⟩
    rw [hu]
    clear hu u2
    go_wp2_with (at_make; go_must (refine wpList_make_full W rfl _ _ 24 rfl W.heap.size 42 i0 (.agg #[.int .i64 0, .int .i64 0, .int .i64 0, .int .i64 0]) 4 Try.underlying24 hi hz0 hz1 .i64 .i64 _ _ n (by rfl) (by rfl) (by omega) (by omega) (by rw [hz2]; omega) (by unfold maxLen; omega) (Nat.le_refl _) ?_); intro w1 hown1 hg1; refine Hid.out ?_)
    have hb : Below W.heap.size W w1 := (Below.refl _ W).grown hg1 (Nat.le_refl _) (by simp)
    clear hg1
    have l4 := hide (show b4 < W.heap.size from heap_lt (unhide R))
    replace R := hide (row_next hb (unhide R))
    have lw := hide (show w.heap.size ≤ W.heap.size from (unhide HB).size)
    have O := hide (show ColsV w1 W.heap.size (.slice (some ⟨W.heap.size, 0, none⟩) n n) n (fun _ => clear4) from ⟨_, hown1, made_clear n⟩)
    replace HB := hide (below_two (unhide HB) hb)
    clear hown1 hb
    generalize W.heap.size = s at O l4 lw ⊢
    obtain ⟨c0, c1, c2⟩ := row3 (unhide R)
    obtain ⟨f0, f1, f2⟩ := frozen3 (unhide R)
    unfold Hid
    go_wp2_with fail
    refine bodyPost_ret (v := .tuple #[.agg #[.int .i64 x, .int .i64 y, .slice (some ⟨s, 0, none⟩) n n], .bool true]) (by simp [results, Try.results6, go_sem, c0, c1, c2]) rfl ⟨_, _, rfl, ?_, ?_⟩
    · obtain ⟨xs, o, hx⟩ := unhide O
      exact ⟨xs, own_low (own_put3 o (fun k hk => by have := (o.lt k hk).1; have := unhide l4; omega) _ _ _) (unhide lw), hx⟩
    · exact below_put3 (unhide HB) (unhide lz) _ _ _
  · have hf : newOkB x y = false := by cases e : newOkB x y with | true => exact absurd e hok | false => rfl
    have hor : Hid (inB x 1 12 = true → inB y 1 12 = false) := fun h => by
      unfold newOkB at hf
      rw [h] at hf
      simpa using hf
    rw [if_neg hok, if_neg hok, if_neg hok, hf]
    clear hok hf
    generalize inB x 1 12 = ix at EX hor
    generalize inB y 1 12 = iy at EY hor
    go_enter Try.func6, Try.ntmps6
    go_upto_region 1 with fail
    have R := hide (new_row w (.cells #[.int .i64 0, .int .i64 0, .slice none 0 0] 26))
    have HB := hide (al1_below w (.cells #[.int .i64 0, .int .i64 0, .slice none 0 0] 26))
    obtain ⟨b4, hb4⟩ : ∃ b, Hid (b = w.heap.size) := ⟨_, rfl⟩
    have lz : Hid (w.heap.size ≤ b4) := by unfold Hid; rw [unhide hb4]; omega
    rw [← unhide hb4] at R
    rw [← unhide hb4]
    generalize w.alloc (.cells #[.int .i64 0, .int .i64 0, .slice none 0 0] 26) = W at R HB ⊢
    clear hb4
    obtain ⟨c0, c1, c2⟩ := row3 (unhide R)
    obtain ⟨f0, f1, f2⟩ := frozen3 (unhide R)
    go_wp2_with fail
    go_fit (unhide EX _)
    rintro r u1 ⟨rfl, hu⟩
    rw [hu]
    clear hu u1
    cases ix with
    | false =>
      go_wp2_with fail
      refine bodyPost_ret (v := .tuple #[.agg #[.int .i64 0, .int .i64 0, .slice none 0 0], .bool false]) (by simp [results, Try.results6, go_sem, c0, c1, c2]) rfl ⟨_, _, rfl, cols_none _ _ _, ?_⟩
      exact below_put3 (unhide HB) (unhide lz) _ _ _
    | true =>
      rw [unhide hor (by trivial)] at EY
      go_wp2_with fail
      go_fit (unhide EY _)
      rintro r u2 ⟨rfl, hu⟩
      rw [hu]
      clear hu u2
      go_wp2_with fail
      refine bodyPost_ret (v := .tuple #[.agg #[.int .i64 0, .int .i64 0, .slice none 0 0], .bool false]) (by simp [results, Try.results6, go_sem, c0, c1, c2]) rfl ⟨_, _, rfl, cols_none _ _ _, ?_⟩
      exact below_put3 (unhide HB) (unhide lz) _ _ _
end Go.Proofs.Ythelfgippiimiac

/-
  The program's right surfaces, their squares, two surfaces held against each other.
-/
namespace Go.Proofs.Ythelfgippiimiac
open Go.RowKit
set_option linter.unusedVariables false

set_option maxHeartbeats 4000000 in
set_option maxRecDepth 100000 in
theorem implSurfaceOk_any (x y : Int) (f : Nat → B4) (ao : Option Addr) (n cp : Nat) (hn : n ≤ 1048576) (hc : n ≤ cp) (hao : ao = none → cp = 0) (w : World) (P : ∀ i, i < n → ClAt w ao i (f i)) :
    Calls Try.prog 10 #[.agg #[.int .i64 x, .int .i64 y, .slice ao n cp]] w fun r w' => r = .returned (.bool (surfOkB x y n f)) ∧ Below w.heap.size w w' := by
  have EX := hide (implSideOk_any x)
  have EY := hide (implSideOk_any y)
  replace P := hide P
  have hyes : Hid (SOk x y n f → surfOkB x y n f = true) := fun h => surfOk_iff.2 h
  have hno : Hid (¬ SOk x y n f → surfOkB x y n f = false) := fun h => surfOk_no h
  generalize surfOkB x y n f = X at hyes hno ⊢
  have hS : Hid (SOk x y n f ↔ (inB x 1 12 = true) ∧ (inB y 1 12 = true) ∧ (n : Int) = x * y ∧ ∀ i, i < n → laidOkB (f i) = true) := by unfold Hid SOk; rw [inB_true, inB_true]
  have hpr : Hid (inB x 1 12 = true → inB y 1 12 = true → IntKind.i64.wrap (x * y) = x * y) := fun h1 h2 => IntWalk.i64_in _ (by have := side_prod (inB_true.1 h1) (inB_true.1 h2); omega)
  generalize SOk x y n f = M at hyes hno hS
  generalize inB x 1 12 = ix at EX hS hpr
  generalize inB y 1 12 = iy at EY hS hpr
  go_enter Try.func10, Try.ntmps10
  go_upto_region 1 with fail
  have R := hide (new_row w (.cells #[.int .i64 x, .int .i64 y, .slice ao n cp] 26))
  have HB := hide (al1_below w (.cells #[.int .i64 x, .int .i64 y, .slice ao n cp] 26))
  obtain ⟨b1, hb1⟩ : ∃ b, Hid (b = w.heap.size) := ⟨_, rfl⟩
  rw [← unhide hb1] at R
  rw [← unhide hb1]
  generalize w.alloc (.cells #[.int .i64 x, .int .i64 y, .slice ao n cp] 26) = W at R HB ⊢
  obtain ⟨r0, r1, r2⟩ := row3 (unhide R)
  go_wp2_with fail
  go_fit (unhide EX _)
  rintro r u1 ⟨rfl, rfl⟩
  cases ix with
  | false =>
    have hX := hide (unhide hno (fun h => by have := (unhide hS).1 h; cases this.1))
    go_wp2_with fail
    go_ret
    exact ⟨ret_bool (unhide hX).symm, unhide HB⟩
  | true =>
  go_wp2_with fail
  go_fit (unhide EY _)
  rintro r u1 ⟨rfl, rfl⟩
  cases iy with
  | false =>
    have hX := hide (unhide hno (fun h => by have := (unhide hS).1 h; cases this.2.1))
    go_wp2_with fail
    go_ret
    exact ⟨ret_bool (unhide hX).symm, unhide HB⟩
  | true =>
    have w3 := unhide hpr (by trivial) (by trivial)
    by_cases hq : (n : Int) = x * y
    · have hq1 := hide hq
      have w4 : IntKind.i64.wrap (x * y) = (n : Int) := by rw [w3, hq]
      clear w3 hq
      go_upto_region 4 with fail
      go_wp2_with fail
      clear r0 r1 r2 w4
      go_loopw [29] (fun i u => ∃ k : Nat, k ≤ n ∧ i = .int .i64 k ∧ Hid (∀ j, j < k → laidOkB (f j) = true) ∧ Hid (Below w.heap.size w u)) (fun i _ => n - (intOf i).toNat)
      case atStart => exact ⟨0, Nat.zero_le _, rfl, fun j hj => absurd hj (by omega), HB⟩
      case round =>
        clear HB R
        obtain ⟨k, hk, rfl, HK, HB⟩ := hrel
        by_cases hlt : k < n
        · have HP := (unhide P k hlt).next (unhide HB)
          obtain ⟨z, hz⟩ : ∃ z, Hid (f k = z) := ⟨_, rfl⟩
          rw [unhide hz] at HP
          obtain ⟨z0, z1, z2, z3⟩ := z
          obtain ⟨s0, o0, rfl, g0, g1, g2, g3⟩ := HP
          dsimp only at g0 g1 g2 g3
          have EI := hide (implLaidOk_any z0 z1 z2 z3)
          have hki : (k : Int) < (n : Int) := by omega
          cases hi : laidOkB ⟨z0, z1, z2, z3⟩ with
          | false =>
            rw [hi] at EI
            have hX := hide (unhide hno (fun h => by have := ((unhide hS).1 h).2.2.2 k hlt; rw [unhide hz, hi] at this; cases this))
            clear hi
            go_wp2_with fail
            go_fit (unhide EI _)
            rintro r u2 ⟨rfl, hb⟩
            replace HB := hide (below_two (unhide HB) (below_two (al1_below _ _) hb))
            go_wp2_with fail
            go_ret
            exact ⟨ret_bool (unhide hX).symm, unhide HB⟩
          | true =>
            rw [hi] at EI
            have HK2 : Hid (∀ j, j < k + 1 → laidOkB (f j) = true) := cols_more (unhide HK) (by rw [unhide hz]; exact hi)
            clear hi
            go_wp2_with fail
            go_fit (unhide EI _)
            rintro r u2 ⟨rfl, hb⟩
            replace HB := hide (below_two (unhide HB) (below_two (al1_below _ _) hb))
            clear hb g0 g1 g2 g3
            go_wp2_with fail
            go_roundw
            case rel => exact ⟨k + 1, by omega, by go_num, HK2, HB⟩
            case measure => simp [intOf]; omega
        · have hke : k = n := by omega
          subst hke
          have hki : ¬ (k : Int) < (k : Int) := by omega
          have hX := hide (unhide hyes ((unhide hS).2 ⟨by trivial, by trivial, unhide hq1, unhide HK⟩))
          go_wp2_with fail
          go_ret
          exact ⟨ret_bool (unhide hX).symm, unhide HB⟩
    · have hX := hide (unhide hno (fun h => hq ((unhide hS).1 h).2.2.1))
      have hqb : ((n : Int) == x * y) = false := beq_eq_false_iff_ne.2 hq
      go_wp2_with fail
      go_ret
      exact ⟨ret_bool (unhide hX).symm, unhide HB⟩

set_option maxHeartbeats 4000000 in
set_option maxRecDepth 100000 in
theorem equalCols_any (G H : Nat → B4) (ao : Option Addr) (n ca : Nat) (bo : Option Addr) (m cb : Nat) (X : Bool) (hX : X = true ↔ n = m ∧ ∀ i, i < n → G i = H i) (hn : n ≤ 1048576) (hm : m ≤ 1048576) (w : World) (PA : ∀ i, i < n → ClAt w ao i (G i)) (PB : ∀ i, i < m → ClAt w bo i (H i)) :
    Calls Try.prog 24 #[.slice ao n ca, .slice bo m cb] w fun r w' => r = .returned (.bool X) ∧ Below w.heap.size w w' := by
  replace hX := hide hX
  replace PA := hide PA
  replace PB := hide PB
  by_cases hnm : n = m
  · subst hnm
    have hX2 : Hid (X = true ↔ ∀ i, i < n → G i = H i) := by unfold Hid; rw [unhide hX]; simp
    clear hX
    go_enter Try.func24, Try.ntmps24
    go_upto_region 4 with fail
    go_loopw [13] (fun i u => ∃ k : Nat, k ≤ n ∧ i = .int .i64 (k : Int) ∧ Hid (∀ j, j < k → G j = H j) ∧ Hid (Below w.heap.size w u)) (fun i _ => n - (intOf i).toNat)
    case atStart => exact ⟨0, Nat.zero_le _, rfl, fun j hj => absurd hj (by omega), Below.refl _ _⟩
    case round =>
      obtain ⟨k, hk, rfl, HK, HB⟩ := hrel
      by_cases hlt : k < n
      · have hki : (k : Int) < (n : Int) := by omega
        obtain ⟨s, o, rfl, g0, g1, g2, g3⟩ := (unhide PA k hlt).next (unhide HB)
        obtain ⟨s', o', rfl, p0, p1, p2, p3⟩ := (unhide PB k hlt).next (unhide HB)
        have hne : Hid (G k = H k ↔ G k = H k) := Iff.rfl
        obtain ⟨r, hr⟩ : ∃ r, Hid (G k = r) := ⟨_, rfl⟩
        obtain ⟨q, hq⟩ : ∃ q, Hid (H k = q) := ⟨_, rfl⟩
        rw [unhide hr] at g0 g1 g2 g3
        rw [unhide hq] at p0 p1 p2 p3
        obtain ⟨r0, r1, r2, r3⟩ := r
        obtain ⟨q0, q1, q2, q3⟩ := q
        dsimp only at g0 g1 g2 g3 p0 p1 p2 p3
        by_cases he : r0 = q0 ∧ r1 = q1 ∧ r2 = q2 ∧ r3 = q3
        · obtain ⟨rfl, rfl, rfl, rfl⟩ := he
          have eq1 : ∀ u, (Op.equalIn 10000 42 (.agg #[.int .i64 r0, .int .i64 r1, .int .i64 r2, .int .i64 r3]) (.agg #[.int .i64 r0, .int .i64 r1, .int .i64 r2, .int .i64 r3])).run Try.prog u = .ok true u := fun u => by rw [eqlColor]; simp
          have HK2 : Hid (∀ j, j < k + 1 → G j = H j) := fun j hj => by
            by_cases e : j = k
            · rw [e, unhide hr, unhide hq]
            · exact unhide HK j (by omega)
          go_upto_region 6 with fail
          go_quiet (fail)
          have HB2 := hide (below_drews (unhide HB) nq)
          go_wp2_with fail
          go_roundw
          case rel => exact ⟨k + 1, by omega, by go_num, HK2, HB2⟩
          case measure => simp [intOf]; omega
        · have hf : (decide (r0 = q0) && (decide (r1 = q1) && (decide (r2 = q2) && decide (r3 = q3)))) = false := by
            rw [Bool.eq_false_iff]; intro h; simp only [Bool.and_eq_true, decide_eq_true_eq] at h; exact he h
          have eq1 : ∀ u, (Op.equalIn 10000 42 (.agg #[.int .i64 r0, .int .i64 r1, .int .i64 r2, .int .i64 r3]) (.agg #[.int .i64 q0, .int .i64 q1, .int .i64 q2, .int .i64 q3])).run Try.prog u = .ok false u := fun u => by rw [eqlColor, hf]
          have hX3 : Hid (false = X) := by
            cases X with
            | false => rfl
            | true =>
              exfalso
              have := (unhide hX2).1 rfl k hlt
              rw [unhide hr, unhide hq] at this
              cases this
              exact he ⟨rfl, rfl, rfl, rfl⟩
          clear hf he
          go_upto_region 6 with fail
          go_quiet (fail)
          have HB2 := hide (below_drews (unhide HB) nq)
          go_wp2_with fail
          go_ret
          exact ⟨ret_bool (unhide hX3), unhide HB2⟩
      · obtain rfl : k = n := by omega
        have hki : ¬ (k : Int) < (k : Int) := by omega
        have hX3 : Hid (true = X) := ((unhide hX2).2 (unhide HK)).symm
        go_wp2_with fail
        go_ret
        exact ⟨ret_bool (unhide hX3), unhide HB⟩
  · have hX3 : Hid (false = X) := by
      cases X with
      | false => rfl
      | true => exact absurd ((unhide hX).1 rfl).1 hnm
    have hnb : ((n : Int) == (m : Int)) = false := beq_eq_false_iff_ne.2 (by omega)
    go_enter Try.func24, Try.ntmps24
    go_wp2_with fail
    go_ret
    exact ⟨ret_bool (unhide hX3), Below.refl _ _⟩

set_option maxHeartbeats 4000000 in
set_option maxRecDepth 100000 in
theorem implSameSurface_any (x y : Int) (f : Nat → B4) (ao : Option Addr) (n ca : Nat) (hn : n ≤ 1048576) (hca : n ≤ ca) (hao : ao = none → ca = 0) (x' y' : Int) (f' : Nat → B4) (bo : Option Addr) (m cb : Nat) (hm : m ≤ 1048576) (hcb : m ≤ cb) (hbo : bo = none → cb = 0) (w : World) (PA : ∀ i, i < n → ClAt w ao i (f i)) (PB : ∀ i, i < m → ClAt w bo i (f' i)) :
    Calls Try.prog 9 #[.agg #[.int .i64 x, .int .i64 y, .slice ao n ca], .agg #[.int .i64 x', .int .i64 y', .slice bo m cb]] w fun r w' => r = .returned (.bool (sameSB x y n f x' y' m f')) ∧ Below w.heap.size w w' := by
  obtain ⟨Z, hZ⟩ : ∃ Z : Bool, Hid (Z = true ↔ n = m ∧ ∀ i, i < n → f i = f' i) := by
    by_cases h : n = m ∧ ∀ i, i < n → f i = f' i
    · exact ⟨true, by unfold Hid; exact ⟨fun _ => h, fun _ => rfl⟩⟩
    · exact ⟨false, by unfold Hid; exact ⟨fun e => (by cases e), fun e => absurd e h⟩⟩
  have EQ := hide (fun u (hu : Below w.heap.size w u) => equalCols_any f f' ao n ca bo m cb Z (unhide hZ) hn hm u (fun i hi => (PA i hi).next hu) (fun i hi => (PB i hi).next hu))
  clear PA PB
  have hyes : Hid (SameS x y n f x' y' m f' → sameSB x y n f x' y' m f' = true) := fun h => sameS_iff.2 h
  have hno : Hid (¬ SameS x y n f x' y' m f' → sameSB x y n f x' y' m f' = false) := fun h => sameS_no h
  generalize sameSB x y n f x' y' m f' = X at hyes hno ⊢
  go_enter Try.func9, Try.ntmps9
  go_upto_region 1 with fail
  have R2 := hide (al2_0 w (.cells #[.int .i64 x, .int .i64 y, .slice ao n ca] 26) (.cells #[.int .i64 x', .int .i64 y', .slice bo m cb] 26))
  have R3 := hide (al2_1 w (.cells #[.int .i64 x, .int .i64 y, .slice ao n ca] 26) (.cells #[.int .i64 x', .int .i64 y', .slice bo m cb] 26))
  have HB := hide (al2_below w (.cells #[.int .i64 x, .int .i64 y, .slice ao n ca] 26) (.cells #[.int .i64 x', .int .i64 y', .slice bo m cb] 26))
  obtain ⟨b3, hb3⟩ : ∃ b, Hid (b = w.heap.size + 1) := ⟨_, rfl⟩
  obtain ⟨b2, hb2⟩ : ∃ b, Hid (b = w.heap.size) := ⟨_, rfl⟩
  rw [← unhide hb3] at R3
  rw [← unhide hb2] at R2
  rw [← unhide hb3, ← unhide hb2]
  generalize (w.alloc (.cells #[.int .i64 x, .int .i64 y, .slice ao n ca] 26)).alloc (.cells #[.int .i64 x', .int .i64 y', .slice bo m cb] 26) = W at R2 R3 HB ⊢
  clear hb3 hb2
  obtain ⟨r0, r1, r2⟩ := row3 (unhide R2)
  obtain ⟨s0, s1, s2⟩ := row3 (unhide R3)
  by_cases hx : x = x'
  · by_cases hy : y = y'
    · subst hx hy
      have EQ0 := hide (unhide EQ _ (unhide HB))
      go_wp2_with fail
      go_fit (unhide EQ0)
      rintro r u ⟨rfl, hb⟩
      replace HB := hide (below_two (unhide HB) hb)
      have hX : Hid (Z = X) := by
        unfold Hid
        cases Z with
        | true => exact (unhide hyes ⟨rfl, rfl, ((unhide hZ).1 rfl).1, ((unhide hZ).1 rfl).2⟩).symm
        | false => exact (unhide hno (fun h => by have := (unhide hZ).2 ⟨h.2.2.1, h.2.2.2⟩; cases this)).symm
      clear hyes hno hZ EQ EQ0 hb r0 r1 r2 s0 s1 s2
      go_wp2_with fail
      go_ret
      exact ⟨ret_bool (unhide hX), unhide HB⟩
    · have hX := hide (unhide hno (fun h => hy h.2.1))
      have hyb : (y == y') = false := beq_eq_false_iff_ne.2 hy
      subst hx
      go_wp2_with fail
      go_ret
      exact ⟨ret_bool (unhide hX).symm, unhide HB⟩
  · have hX := hide (unhide hno (fun h => hx h.1))
    have hxb : (x == x') = false := beq_eq_false_iff_ne.2 hx
    go_wp2_with fail
    go_ret
    exact ⟨ret_bool (unhide hX).symm, unhide HB⟩

end Go.Proofs.Ythelfgippiimiac

/-
  The program's modeOk.
-/
namespace Go.Proofs.Ythelfgippiimiac
open Go.RowKit
set_option linter.unusedVariables false

theorem implModeOk_any (x : Int) (w : World) :
    Calls Try.prog 60 #[.int .i64 x] w fun e w' => e = .returned (.bool (inB x 1 5)) ∧ w' = w := by
  by_cases h1 : 1 ≤ x
  · by_cases h2 : x ≤ 5
    · have H : Hid (true = inB x 1 5) := (inB_true.2 ⟨h1, h2⟩).symm
      go_enter Try.func60, Try.ntmps60
      go_wp2_with fail
      go_ret
      exact ⟨ret_bool (unhide H), rfl⟩
    · have H : Hid (false = inB x 1 5) := by unfold Hid inB; simp [h1, h2]
      go_enter Try.func60, Try.ntmps60
      go_wp2_with fail
      go_ret
      exact ⟨ret_bool (unhide H), rfl⟩
  · have H : Hid (false = inB x 1 5) := by unfold Hid inB; simp [h1]
    go_enter Try.func60, Try.ntmps60
    go_wp2_with fail
    go_ret
    exact ⟨ret_bool (unhide H), rfl⟩
end Go.Proofs.Ythelfgippiimiac

/-
  The program's five ways to blend one part, by method expressions in a table. (By blendi.py.)
-/
namespace Go.Proofs.Ythelfgippiimiac
open Go.RowKit
set_option linter.unusedVariables false

set_option maxHeartbeats 4000000 in
set_option maxRecDepth 100000 in
theorem implMeet_out (s d sa da : Int) (hs : 0 ≤ s ∧ s ≤ 255) (hd : 0 ≤ d ∧ d ≤ 255) (hsa : 0 ≤ sa ∧ sa ≤ 255) (hda : 0 ≤ da ∧ da ≤ 255) (w : World) :
    Calls Try.prog 65 #[.agg #[.int .i64 s, .int .i64 sa, .int .i64 d, .int .i64 da]] w fun e w' => e = .returned (.int .i64 (outI 5 s d sa da)) ∧ Below w.heap.size w w' := by
  have hO : Hid (outI 5 s d sa da = t255I d (255 - sa)) := rfl
  have E := hide (implTimes255_any d (255 - sa))
  have v0 : IntKind.i64.wrap (255 - sa) = 255 - sa := IntWalk.i64_in _ (by omega)
  rw [unhide hO]
  generalize t255I d (255 - sa) = V at E ⊢
  clear hs hd hsa hda hO
  go_enter Try.func65, Try.ntmps65
  go_upto_region 1 with fail
  have R1 := hide (new_row w (.cells #[.int .i64 s, .int .i64 sa, .int .i64 d, .int .i64 da] 73))
  have HB := hide (al1_below w (.cells #[.int .i64 s, .int .i64 sa, .int .i64 d, .int .i64 da] 73))
  obtain ⟨b1, hb1⟩ : ∃ b, Hid (b = w.heap.size) := ⟨_, rfl⟩
  rw [← unhide hb1] at R1
  rw [← unhide hb1]
  generalize w.alloc (.cells #[.int .i64 s, .int .i64 sa, .int .i64 d, .int .i64 da] 73) = W at R1 HB ⊢
  clear hb1
  obtain ⟨q0, q1, q2, q3⟩ := row4 (unhide R1)
  go_wp2_with fail
  go_fit (unhide E _)
  rintro e w1 ⟨rfl, hb⟩
  go_wp2_with fail
  go_ret
  exact ⟨rfl, below_two (unhide HB) hb⟩

set_option maxHeartbeats 4000000 in
set_option maxRecDepth 100000 in
theorem implMeet_plus (s d sa da : Int) (hs : 0 ≤ s ∧ s ≤ 255) (hd : 0 ≤ d ∧ d ≤ 255) (hsa : 0 ≤ sa ∧ sa ≤ 255) (hda : 0 ≤ da ∧ da ≤ 255) (w : World) :
    Calls Try.prog 64 #[.agg #[.int .i64 s, .int .i64 sa, .int .i64 d, .int .i64 da]] w fun e w' => e = .returned (.int .i64 (outI 4 s d sa da)) ∧ Below w.heap.size w w' := by
  have hO : Hid (outI 4 s d sa da = s + d) := rfl
  have v0 : IntKind.i64.wrap (s + d) = s + d := IntWalk.i64_in _ (by omega)
  rw [unhide hO]
  clear hs hd hsa hda hO
  go_enter Try.func64, Try.ntmps64
  go_upto_region 1 with fail
  have R1 := hide (new_row w (.cells #[.int .i64 s, .int .i64 sa, .int .i64 d, .int .i64 da] 73))
  have HB := hide (al1_below w (.cells #[.int .i64 s, .int .i64 sa, .int .i64 d, .int .i64 da] 73))
  obtain ⟨b1, hb1⟩ : ∃ b, Hid (b = w.heap.size) := ⟨_, rfl⟩
  rw [← unhide hb1] at R1
  rw [← unhide hb1]
  generalize w.alloc (.cells #[.int .i64 s, .int .i64 sa, .int .i64 d, .int .i64 da] 73) = W at R1 HB ⊢
  clear hb1
  obtain ⟨q0, q1, q2, q3⟩ := row4 (unhide R1)
  go_wp2_with fail
  go_ret
  exact ⟨rfl, unhide HB⟩

set_option maxHeartbeats 4000000 in
set_option maxRecDepth 100000 in
theorem implMeet_over (s d sa da : Int) (hs : 0 ≤ s ∧ s ≤ 255) (hd : 0 ≤ d ∧ d ≤ 255) (hsa : 0 ≤ sa ∧ sa ≤ 255) (hda : 0 ≤ da ∧ da ≤ 255) (w : World) :
    Calls Try.prog 61 #[.agg #[.int .i64 s, .int .i64 sa, .int .i64 d, .int .i64 da]] w fun e w' => e = .returned (.int .i64 (outI 1 s d sa da)) ∧ Below w.heap.size w w' := by
  have hO : Hid (outI 1 s d sa da = s + t255I d (255 - sa)) := rfl
  have E := hide (implMeet_out s d sa da hs hd hsa hda)
  have hb5 : 0 ≤ t255I d (255 - sa) ∧ t255I d (255 - sa) ≤ 255 := by
    have h1 := t255_mono (a := d) (c := d) (b := 255 - sa) hd.1 (Int.le_refl _) hd.2 (by omega)
    have h2 := t255_le (a := d) (b := 255 - sa) hd (by omega)
    omega
  rw [show outI 5 s d sa da = t255I d (255 - sa) from rfl] at E
  rw [unhide hO]
  generalize t255I d (255 - sa) = V at E hb5 ⊢
  have v0 : IntKind.i64.wrap (s + V) = s + V := IntWalk.i64_in _ (by omega)
  clear hs hd hsa hda hO hb5
  go_enter Try.func61, Try.ntmps61
  go_upto_region 1 with fail
  have R1 := hide (new_row w (.cells #[.int .i64 s, .int .i64 sa, .int .i64 d, .int .i64 da] 73))
  have HB := hide (al1_below w (.cells #[.int .i64 s, .int .i64 sa, .int .i64 d, .int .i64 da] 73))
  obtain ⟨b1, hb1⟩ : ∃ b, Hid (b = w.heap.size) := ⟨_, rfl⟩
  rw [← unhide hb1] at R1
  rw [← unhide hb1]
  generalize w.alloc (.cells #[.int .i64 s, .int .i64 sa, .int .i64 d, .int .i64 da] 73) = W at R1 HB ⊢
  clear hb1
  obtain ⟨q0, q1, q2, q3⟩ := row4 (unhide R1)
  have HN := hide ((Below.refl W.heap.size W).drew)
  have k0 := hide (show ∀ u, Below W.heap.size W u → (u.cell? ⟨b1, 0, none⟩ = some (.int .i64 s) ∧ u.cell? ⟨b1, 1, none⟩ = some (.int .i64 sa) ∧ u.cell? ⟨b1, 2, none⟩ = some (.int .i64 d) ∧ u.cell? ⟨b1, 3, none⟩ = some (.int .i64 da) ∧ Below W.heap.size W u) from fun u h => by
    obtain ⟨c0, c1, c2, c3⟩ := row4 (row_next h (unhide R1))
    exact ⟨c0, c1, c2, c3, h⟩)
  have k00 := hide (unhide k0 _ (unhide HN))
  clear q0 q1 q2 q3
  go_region_held3 (fun u => u.cell? ⟨b1, 0, none⟩ = some (.int .i64 s) ∧ u.cell? ⟨b1, 1, none⟩ = some (.int .i64 sa) ∧ u.cell? ⟨b1, 2, none⟩ = some (.int .i64 d) ∧ u.cell? ⟨b1, 3, none⟩ = some (.int .i64 da) ∧ Below W.heap.size W u) (first | with_reducible exact unhide k00 | with_reducible exact unhide k0 _ (by assumption)) (first | (go_at_call 65; go_fit (unhide E _); rintro e w4 ⟨rfl, hb4⟩; have h4 := below_undrew hb4; clear hb4))
  all_goals
    go_wp2_with fail
    go_ret
    exact ⟨rfl, below_two (unhide HB) h4⟩

set_option maxHeartbeats 4000000 in
set_option maxRecDepth 100000 in
theorem implMeet_multiply (s d sa da : Int) (hs : 0 ≤ s ∧ s ≤ 255) (hd : 0 ≤ d ∧ d ≤ 255) (hsa : 0 ≤ sa ∧ sa ≤ 255) (hda : 0 ≤ da ∧ da ≤ 255) (w : World) :
    Calls Try.prog 62 #[.agg #[.int .i64 s, .int .i64 sa, .int .i64 d, .int .i64 da]] w fun e w' => e = .returned (.int .i64 (outI 2 s d sa da)) ∧ Below w.heap.size w w' := by
  have m1 := prod255 hs hd
  have m2 := prod255 (x := s) (y := 255 - da) hs (by omega)
  have m3 := prod255 (x := d) (y := 255 - sa) hd (by omega)
  have hO : Hid (outI 2 s d sa da = rdivI (s * d + (s * (255 - da) + d * (255 - sa))) 255) := by unfold Hid; rw [← Int.add_assoc]; rfl
  have w1' : IntKind.i64.wrap (255 - da) = 255 - da := IntWalk.i64_in _ (by omega)
  have w2' : IntKind.i64.wrap (255 - sa) = 255 - sa := IntWalk.i64_in _ (by omega)
  have w3' : IntKind.i64.wrap (s * d) = s * d := IntWalk.i64_in _ (by omega)
  have w4' : IntKind.i64.wrap (s * (255 - da)) = s * (255 - da) := IntWalk.i64_in _ (by omega)
  have w5' : IntKind.i64.wrap (d * (255 - sa)) = d * (255 - sa) := IntWalk.i64_in _ (by omega)
  have w6' : IntKind.i64.wrap (s * (255 - da) + d * (255 - sa)) = s * (255 - da) + d * (255 - sa) := IntWalk.i64_in _ (by omega)
  have w7' : IntKind.i64.wrap (s * d + (s * (255 - da) + d * (255 - sa))) = s * d + (s * (255 - da) + d * (255 - sa)) := IntWalk.i64_in _ (by omega)
  have E := hide (implRoundDiv_any (s * d + (s * (255 - da) + d * (255 - sa))) 255 (by omega) (by omega) (by omega))
  rw [unhide hO]
  generalize rdivI (s * d + (s * (255 - da) + d * (255 - sa))) 255 = V at E ⊢
  clear hs hd hsa hda hO m1 m2 m3
  go_enter Try.func62, Try.ntmps62
  go_upto_region 1 with fail
  have R1 := hide (new_row w (.cells #[.int .i64 s, .int .i64 sa, .int .i64 d, .int .i64 da] 73))
  have HB := hide (al1_below w (.cells #[.int .i64 s, .int .i64 sa, .int .i64 d, .int .i64 da] 73))
  obtain ⟨b1, hb1⟩ : ∃ b, Hid (b = w.heap.size) := ⟨_, rfl⟩
  rw [← unhide hb1] at R1
  rw [← unhide hb1]
  generalize w.alloc (.cells #[.int .i64 s, .int .i64 sa, .int .i64 d, .int .i64 da] 73) = W at R1 HB ⊢
  clear hb1
  obtain ⟨q0, q1, q2, q3⟩ := row4 (unhide R1)
  go_wp2_with fail
  go_fit (unhide E _)
  rintro e w1 ⟨rfl, hb⟩
  go_wp2_with fail
  go_ret
  exact ⟨rfl, below_two (unhide HB) hb⟩

set_option maxHeartbeats 4000000 in
set_option maxRecDepth 100000 in
theorem implMeet_screen (s d sa da : Int) (hs : 0 ≤ s ∧ s ≤ 255) (hd : 0 ≤ d ∧ d ≤ 255) (hsa : 0 ≤ sa ∧ sa ≤ 255) (hda : 0 ≤ da ∧ da ≤ 255) (w : World) :
    Calls Try.prog 63 #[.agg #[.int .i64 s, .int .i64 sa, .int .i64 d, .int .i64 da]] w fun e w' => e = .returned (.int .i64 (outI 3 s d sa da)) ∧ Below w.heap.size w w' := by
  have hO : Hid (outI 3 s d sa da = s + d - t255I s d) := by unfold Hid; rw [t255_is hs hd]; rfl
  have E := hide (implTimes255_any s d)
  have hb5 : 0 ≤ t255I s d ∧ t255I s d ≤ 255 := by
    have h1 := t255_mono (a := s) (c := s) (b := d) hs.1 (Int.le_refl _) hs.2 hd
    have h2 := t255_le (a := s) (b := d) hs hd
    omega
  rw [unhide hO]
  generalize t255I s d = V at E hb5 ⊢
  have v0 : IntKind.i64.wrap (s + d) = s + d := IntWalk.i64_in _ (by omega)
  have v1 : IntKind.i64.wrap (s + d - V) = s + d - V := IntWalk.i64_in _ (by omega)
  clear hs hd hsa hda hO hb5
  go_enter Try.func63, Try.ntmps63
  go_upto_region 1 with fail
  have R1 := hide (new_row w (.cells #[.int .i64 s, .int .i64 sa, .int .i64 d, .int .i64 da] 73))
  have HB := hide (al1_below w (.cells #[.int .i64 s, .int .i64 sa, .int .i64 d, .int .i64 da] 73))
  obtain ⟨b1, hb1⟩ : ∃ b, Hid (b = w.heap.size) := ⟨_, rfl⟩
  rw [← unhide hb1] at R1
  rw [← unhide hb1]
  generalize w.alloc (.cells #[.int .i64 s, .int .i64 sa, .int .i64 d, .int .i64 da] 73) = W at R1 HB ⊢
  clear hb1
  obtain ⟨q0, q1, q2, q3⟩ := row4 (unhide R1)
  have HN := hide ((Below.refl W.heap.size W).drew)
  have k0 := hide (show ∀ u, Below W.heap.size W u → (u.cell? ⟨b1, 0, none⟩ = some (.int .i64 s) ∧ u.cell? ⟨b1, 1, none⟩ = some (.int .i64 sa) ∧ u.cell? ⟨b1, 2, none⟩ = some (.int .i64 d) ∧ u.cell? ⟨b1, 3, none⟩ = some (.int .i64 da) ∧ Below W.heap.size W u) from fun u h => by
    obtain ⟨c0, c1, c2, c3⟩ := row4 (row_next h (unhide R1))
    exact ⟨c0, c1, c2, c3, h⟩)
  have k00 := hide (unhide k0 _ (unhide HN))
  clear q0 q1 q2 q3
  go_region_held3 (fun u => u.cell? ⟨b1, 0, none⟩ = some (.int .i64 s) ∧ u.cell? ⟨b1, 1, none⟩ = some (.int .i64 sa) ∧ u.cell? ⟨b1, 2, none⟩ = some (.int .i64 d) ∧ u.cell? ⟨b1, 3, none⟩ = some (.int .i64 da) ∧ Below W.heap.size W u) (first | with_reducible exact unhide k00 | with_reducible exact unhide k0 _ (by assumption)) (first | (go_at_call 42; go_fit (unhide E _); rintro e w4 ⟨rfl, hb4⟩; have h4 := below_undrew hb4; clear hb4))
  all_goals
    go_wp2_with fail
    go_ret
    exact ⟨rfl, below_two (unhide HB) h4⟩

set_option maxHeartbeats 8000000 in
set_option maxRecDepth 100000 in
theorem implEachPart_blend (p ps pd : Nat) (r g b a r2 g2 b2' a2 m0 m1 m2 m3 : Int) (J : World → Prop) (jn : ∀ u u', J u → Below u.heap.size u u' → J u')
    (K0 : ∀ u, J u → Calls Try.prog 38 #[.int .i64 r, .int .i64 r2, .pointer (some ⟨p, 0, none⟩), .pointer (some ⟨ps, 0, none⟩), .pointer (some ⟨pd, 0, none⟩)] u fun e u' => e = .returned (.int .i64 m0) ∧ Below u.heap.size u u')
    (K1 : ∀ u, J u → Calls Try.prog 38 #[.int .i64 g, .int .i64 g2, .pointer (some ⟨p, 0, none⟩), .pointer (some ⟨ps, 0, none⟩), .pointer (some ⟨pd, 0, none⟩)] u fun e u' => e = .returned (.int .i64 m1) ∧ Below u.heap.size u u')
    (K2 : ∀ u, J u → Calls Try.prog 38 #[.int .i64 b, .int .i64 b2', .pointer (some ⟨p, 0, none⟩), .pointer (some ⟨ps, 0, none⟩), .pointer (some ⟨pd, 0, none⟩)] u fun e u' => e = .returned (.int .i64 m2) ∧ Below u.heap.size u u')
    (K3 : ∀ u, J u → Calls Try.prog 38 #[.int .i64 a, .int .i64 a2, .pointer (some ⟨p, 0, none⟩), .pointer (some ⟨ps, 0, none⟩), .pointer (some ⟨pd, 0, none⟩)] u fun e u' => e = .returned (.int .i64 m3) ∧ Below u.heap.size u u')
    (w : World) (h : J w) :
    Calls Try.prog 37 #[.agg #[.int .i64 r, .int .i64 g, .int .i64 b, .int .i64 a], .agg #[.int .i64 r2, .int .i64 g2, .int .i64 b2', .int .i64 a2], .func (.func 38) #[] #[.pointer (some ⟨p, 0, none⟩), .pointer (some ⟨ps, 0, none⟩), .pointer (some ⟨pd, 0, none⟩)]] w fun e w' => e = .returned (.agg #[.int .i64 m0, .int .i64 m1, .int .i64 m2, .int .i64 m3]) ∧ Below w.heap.size w w' := by
  replace K0 := hide K0
  replace K1 := hide K1
  replace K2 := hide K2
  replace K3 := hide K3
  go_enter Try.func37, Try.ntmps37
  go_upto_region 1 with fail
  have R1 := hide (al3_0 w (.cells #[.int .i64 r, .int .i64 g, .int .i64 b, .int .i64 a] 42) (.cells #[.int .i64 r2, .int .i64 g2, .int .i64 b2', .int .i64 a2] 42) (.cells #[.int .i64 0, .int .i64 0, .int .i64 0, .int .i64 0] 42))
  have R2 := hide (al3_1 w (.cells #[.int .i64 r, .int .i64 g, .int .i64 b, .int .i64 a] 42) (.cells #[.int .i64 r2, .int .i64 g2, .int .i64 b2', .int .i64 a2] 42) (.cells #[.int .i64 0, .int .i64 0, .int .i64 0, .int .i64 0] 42))
  have R3 := hide (al3_2 w (.cells #[.int .i64 r, .int .i64 g, .int .i64 b, .int .i64 a] 42) (.cells #[.int .i64 r2, .int .i64 g2, .int .i64 b2', .int .i64 a2] 42) (.cells #[.int .i64 0, .int .i64 0, .int .i64 0, .int .i64 0] 42))
  have HB := hide (al3_below w (.cells #[.int .i64 r, .int .i64 g, .int .i64 b, .int .i64 a] 42) (.cells #[.int .i64 r2, .int .i64 g2, .int .i64 b2', .int .i64 a2] 42) (.cells #[.int .i64 0, .int .i64 0, .int .i64 0, .int .i64 0] 42))
  have cq := jn _ _ h (unhide HB)
  obtain ⟨b3, hb3⟩ : ∃ b, Hid (b = w.heap.size + 1 + 1) := ⟨_, rfl⟩
  obtain ⟨b2, hb2⟩ : ∃ b, Hid (b = w.heap.size + 1) := ⟨_, rfl⟩
  obtain ⟨b1, hb1⟩ : ∃ b, Hid (b = w.heap.size) := ⟨_, rfl⟩
  have lz : Hid (w.heap.size ≤ b3 ∧ b1 < b3 ∧ b2 < b3) := by unfold Hid; rw [unhide hb3, unhide hb2, unhide hb1]; omega
  rw [← unhide hb3] at R3
  rw [← unhide hb2] at R2
  rw [← unhide hb1] at R1
  rw [← unhide hb3, ← unhide hb2, ← unhide hb1]
  generalize ((w.alloc (.cells #[.int .i64 r, .int .i64 g, .int .i64 b, .int .i64 a] 42)).alloc (.cells #[.int .i64 r2, .int .i64 g2, .int .i64 b2', .int .i64 a2] 42)).alloc (.cells #[.int .i64 0, .int .i64 0, .int .i64 0, .int .i64 0] 42) = W at R1 R2 R3 HB cq ⊢
  clear hb3 hb2 hb1 h
  have ne1 : ¬ b3 = b1 := by have := unhide lz; omega
  have ne2 : ¬ b1 = b3 := by have := unhide lz; omega
  have ne3 : ¬ b3 = b2 := by have := unhide lz; omega
  have ne4 : ¬ b2 = b3 := by have := unhide lz; omega
  have l6 := hide (show b3 ≤ W.heap.size from Nat.le_of_lt (heap_lt (unhide R3)))
  have cq0 := hide (jn _ _ cq (Below.refl W.heap.size W).drew)
  replace cq := hide cq
  have k0 := hide (show ∀ u, Below b3 W u → (u.cell? ⟨b1, 0, none⟩ = some (.int .i64 r) ∧ u.cell? ⟨b1, 1, none⟩ = some (.int .i64 g) ∧ u.cell? ⟨b1, 2, none⟩ = some (.int .i64 b) ∧ u.cell? ⟨b1, 3, none⟩ = some (.int .i64 a) ∧ u.cell? ⟨b2, 0, none⟩ = some (.int .i64 r2) ∧ u.cell? ⟨b2, 1, none⟩ = some (.int .i64 g2) ∧ u.cell? ⟨b2, 2, none⟩ = some (.int .i64 b2') ∧ u.cell? ⟨b2, 3, none⟩ = some (.int .i64 a2) ∧ Below b3 W u) from fun u h => by
    obtain ⟨c0, c1, c2, c3⟩ := row4 ((h.block b1 (unhide lz).2.1).trans (unhide R1))
    obtain ⟨d0, d1, d2, d3⟩ := row4 ((h.block b2 (unhide lz).2.2).trans (unhide R2))
    exact ⟨c0, c1, c2, c3, d0, d1, d2, d3, h⟩)
  have k1 := hide (show ∀ u, Below W.heap.size W u → (u.cell? ⟨b3, 0, none⟩ = some (.int .i64 0) ∧ u.cell? ⟨b3, 1, none⟩ = some (.int .i64 0) ∧ u.cell? ⟨b3, 2, none⟩ = some (.int .i64 0) ∧ u.cell? ⟨b3, 3, none⟩ = some (.int .i64 0) ∧ u.frozen? ⟨b3, 0, none⟩ = false ∧ u.frozen? ⟨b3, 1, none⟩ = false ∧ u.frozen? ⟨b3, 2, none⟩ = false ∧ u.frozen? ⟨b3, 3, none⟩ = false) from fun u h => by
    obtain ⟨e0, e1, e2, e3⟩ := row4 (row_next h (unhide R3))
    obtain ⟨f0, f1, f2, f3⟩ := free4 (row_next h (unhide R3))
    exact ⟨e0, e1, e2, e3, f0, f1, f2, f3⟩)
  have k00 := hide (unhide k0 _ (Below.refl _ _).drew)
  replace jn := hide jn
  go_region_held3 (fun u => u.cell? ⟨b1, 0, none⟩ = some (.int .i64 r) ∧ u.cell? ⟨b1, 1, none⟩ = some (.int .i64 g) ∧ u.cell? ⟨b1, 2, none⟩ = some (.int .i64 b) ∧ u.cell? ⟨b1, 3, none⟩ = some (.int .i64 a) ∧ u.cell? ⟨b2, 0, none⟩ = some (.int .i64 r2) ∧ u.cell? ⟨b2, 1, none⟩ = some (.int .i64 g2) ∧ u.cell? ⟨b2, 2, none⟩ = some (.int .i64 b2') ∧ u.cell? ⟨b2, 3, none⟩ = some (.int .i64 a2) ∧ Below b3 W u) ((first | with_reducible exact unhide k00 | (with_reducible refine unhide k0 _ ?_; first | with_reducible exact Below.mono (by assumption) (unhide l6) | (with_reducible refine below_put4 ?_ (Nat.le_refl _) _ _ _ _; with_reducible exact Below.mono (by assumption) (unhide l6))))) (first | (go_at_call 38; go_fit (unhide K0 _ (unhide cq0)); rintro e w4 ⟨rfl, hb1⟩; have h1 := below_undrew hb1; have cq1 := hide (unhide jn _ _ (unhide cq) h1); clear hb1) | (go_at_call 38; go_fit (unhide K1 _ (unhide cq1)); rintro e w5 ⟨rfl, hb2⟩; have h2 := below_two h1 hb2; clear h1 cq1; have cq2 := hide (unhide jn _ _ (unhide cq) h2); clear hb2) | (go_at_call 38; go_fit (unhide K2 _ (unhide cq2)); rintro e w6 ⟨rfl, hb3⟩; have h3 := below_two h2 hb3; clear h2 cq2; have cq3 := hide (unhide jn _ _ (unhide cq) h3); clear hb3) | (go_at_call 38; go_fit (unhide K3 _ (unhide cq3)); rintro e w7 ⟨rfl, hb4⟩; have h4 := below_two h3 hb4; clear h3 cq3; clear hb4; obtain ⟨e0, e1, e2, e3, f0, f1, f2, f3⟩ := unhide k1 _ h4))
  all_goals
    go_wp2_with fail
    refine bodyPost_ret (v := .agg #[.int .i64 m0, .int .i64 m1, .int .i64 m2, .int .i64 m3]) (by simp [results, Try.results37, go_sem, e0, e1, e2, e3]) rfl ⟨rfl, ?_⟩
    exact below_put4 (below_two (unhide HB) h4) (unhide lz).1 _ _ _ _

structure MixAt (w : World) (p ps pd : Nat) (f : Value) (r g b a r2 g2 b2' a2 : Int) : Prop where
  f : w.cell? ⟨p, 0, none⟩ = some f
  s : w.heap[ps]? = some (.cells #[.int .i64 r, .int .i64 g, .int .i64 b, .int .i64 a] 42 (0, 0))
  d : w.heap[pd]? = some (.cells #[.int .i64 r2, .int .i64 g2, .int .i64 b2', .int .i64 a2] 42 (0, 0))
theorem MixAt.next {w w1 : World} {p ps pd : Nat} {f : Value} {r g b a r2 g2 b2' a2 : Int} (h : MixAt w p ps pd f r g b a r2 g2 b2' a2) (hb : Below w.heap.size w w1) : MixAt w1 p ps pd f r g b a r2 g2 b2' a2 :=
  ⟨kc hb h.f, row_next hb h.s, row_next hb h.d⟩
theorem min_cap (x : Int) : min x 255 = capI x := by unfold capI; rw [Int.min_def]; split <;> split <;> omega

set_option maxHeartbeats 4000000 in
set_option maxRecDepth 100000 in
theorem implMix_over (p ps pd : Nat) (x y r g b a r2 g2 b2' a2 : Int) (hs : 0 ≤ x ∧ x ≤ 255) (hd : 0 ≤ y ∧ y ≤ 255) (hsa : 0 ≤ a ∧ a ≤ 255) (hda : 0 ≤ a2 ∧ a2 ≤ 255) (w : World) (h : MixAt w p ps pd (.func (.func 61) #[] #[]) r g b a r2 g2 b2' a2) :
    Calls Try.prog 38 #[.int .i64 x, .int .i64 y, .pointer (some ⟨p, 0, none⟩), .pointer (some ⟨ps, 0, none⟩), .pointer (some ⟨pd, 0, none⟩)] w fun e w' => e = .returned (.int .i64 (blendI 1 x y a a2)) ∧ Below w.heap.size w w' := by
  have E := hide (implMeet_over x y a a2 hs hd hsa hda)
  have hO : Hid (blendI 1 x y a a2 = min (outI 1 x y a a2) 255) := (min_cap _).symm
  generalize outI 1 x y a a2 = V at E hO
  rw [unhide hO]
  clear hs hd hsa hda hO
  obtain ⟨c, h1, h2⟩ := h
  obtain ⟨q0, q1, q2, q3⟩ := row4 h1
  obtain ⟨d0, d1, d2, d3⟩ := row4 h2
  clear h1 h2
  go_enter Try.func38, Try.ntmps38
  go_wp2_with fail
  go_fit (unhide E _)
  rintro e w1 ⟨rfl, hb⟩
  go_wp2_with fail
  go_ret
  exact ⟨rfl, hb⟩

theorem implBlendOf_over (w : World) :
    Calls Try.prog 36 #[.int .i64 1] w fun e w' => e = .returned (.tuple #[.func (.func 61) #[] #[], .bool true]) ∧ Below w.heap.size w w' := by
  have EM := hide (implModeOk_any 1)
  rw [show inB 1 1 5 = true from rfl] at EM
  go_enter Try.func36, Try.ntmps36
  go_wp2_with fail
  go_fit (unhide EM _)
  rintro e w1 ⟨rfl, hw⟩
  rw [hw]
  clear hw w1
  go_wp2_with fail
  exact bodyPost_ret (v := .tuple #[.func (.func 61) #[] #[], .bool true]) (by simp [results, Try.results36, go_sem]) rfl ⟨rfl, al1_below _ _⟩

set_option maxHeartbeats 4000000 in
set_option maxRecDepth 100000 in
theorem implMix_multiply (p ps pd : Nat) (x y r g b a r2 g2 b2' a2 : Int) (hs : 0 ≤ x ∧ x ≤ 255) (hd : 0 ≤ y ∧ y ≤ 255) (hsa : 0 ≤ a ∧ a ≤ 255) (hda : 0 ≤ a2 ∧ a2 ≤ 255) (w : World) (h : MixAt w p ps pd (.func (.func 62) #[] #[]) r g b a r2 g2 b2' a2) :
    Calls Try.prog 38 #[.int .i64 x, .int .i64 y, .pointer (some ⟨p, 0, none⟩), .pointer (some ⟨ps, 0, none⟩), .pointer (some ⟨pd, 0, none⟩)] w fun e w' => e = .returned (.int .i64 (blendI 2 x y a a2)) ∧ Below w.heap.size w w' := by
  have E := hide (implMeet_multiply x y a a2 hs hd hsa hda)
  have hO : Hid (blendI 2 x y a a2 = min (outI 2 x y a a2) 255) := (min_cap _).symm
  generalize outI 2 x y a a2 = V at E hO
  rw [unhide hO]
  clear hs hd hsa hda hO
  obtain ⟨c, h1, h2⟩ := h
  obtain ⟨q0, q1, q2, q3⟩ := row4 h1
  obtain ⟨d0, d1, d2, d3⟩ := row4 h2
  clear h1 h2
  go_enter Try.func38, Try.ntmps38
  go_wp2_with fail
  go_fit (unhide E _)
  rintro e w1 ⟨rfl, hb⟩
  go_wp2_with fail
  go_ret
  exact ⟨rfl, hb⟩

theorem implBlendOf_multiply (w : World) :
    Calls Try.prog 36 #[.int .i64 2] w fun e w' => e = .returned (.tuple #[.func (.func 62) #[] #[], .bool true]) ∧ Below w.heap.size w w' := by
  have EM := hide (implModeOk_any 2)
  rw [show inB 2 1 5 = true from rfl] at EM
  go_enter Try.func36, Try.ntmps36
  go_wp2_with fail
  go_fit (unhide EM _)
  rintro e w1 ⟨rfl, hw⟩
  rw [hw]
  clear hw w1
  go_wp2_with fail
  exact bodyPost_ret (v := .tuple #[.func (.func 62) #[] #[], .bool true]) (by simp [results, Try.results36, go_sem]) rfl ⟨rfl, al1_below _ _⟩

set_option maxHeartbeats 4000000 in
set_option maxRecDepth 100000 in
theorem implMix_screen (p ps pd : Nat) (x y r g b a r2 g2 b2' a2 : Int) (hs : 0 ≤ x ∧ x ≤ 255) (hd : 0 ≤ y ∧ y ≤ 255) (hsa : 0 ≤ a ∧ a ≤ 255) (hda : 0 ≤ a2 ∧ a2 ≤ 255) (w : World) (h : MixAt w p ps pd (.func (.func 63) #[] #[]) r g b a r2 g2 b2' a2) :
    Calls Try.prog 38 #[.int .i64 x, .int .i64 y, .pointer (some ⟨p, 0, none⟩), .pointer (some ⟨ps, 0, none⟩), .pointer (some ⟨pd, 0, none⟩)] w fun e w' => e = .returned (.int .i64 (blendI 3 x y a a2)) ∧ Below w.heap.size w w' := by
  have E := hide (implMeet_screen x y a a2 hs hd hsa hda)
  have hO : Hid (blendI 3 x y a a2 = min (outI 3 x y a a2) 255) := (min_cap _).symm
  generalize outI 3 x y a a2 = V at E hO
  rw [unhide hO]
  clear hs hd hsa hda hO
  obtain ⟨c, h1, h2⟩ := h
  obtain ⟨q0, q1, q2, q3⟩ := row4 h1
  obtain ⟨d0, d1, d2, d3⟩ := row4 h2
  clear h1 h2
  go_enter Try.func38, Try.ntmps38
  go_wp2_with fail
  go_fit (unhide E _)
  rintro e w1 ⟨rfl, hb⟩
  go_wp2_with fail
  go_ret
  exact ⟨rfl, hb⟩

theorem implBlendOf_screen (w : World) :
    Calls Try.prog 36 #[.int .i64 3] w fun e w' => e = .returned (.tuple #[.func (.func 63) #[] #[], .bool true]) ∧ Below w.heap.size w w' := by
  have EM := hide (implModeOk_any 3)
  rw [show inB 3 1 5 = true from rfl] at EM
  go_enter Try.func36, Try.ntmps36
  go_wp2_with fail
  go_fit (unhide EM _)
  rintro e w1 ⟨rfl, hw⟩
  rw [hw]
  clear hw w1
  go_wp2_with fail
  exact bodyPost_ret (v := .tuple #[.func (.func 63) #[] #[], .bool true]) (by simp [results, Try.results36, go_sem]) rfl ⟨rfl, al1_below _ _⟩

set_option maxHeartbeats 4000000 in
set_option maxRecDepth 100000 in
theorem implMix_plus (p ps pd : Nat) (x y r g b a r2 g2 b2' a2 : Int) (hs : 0 ≤ x ∧ x ≤ 255) (hd : 0 ≤ y ∧ y ≤ 255) (hsa : 0 ≤ a ∧ a ≤ 255) (hda : 0 ≤ a2 ∧ a2 ≤ 255) (w : World) (h : MixAt w p ps pd (.func (.func 64) #[] #[]) r g b a r2 g2 b2' a2) :
    Calls Try.prog 38 #[.int .i64 x, .int .i64 y, .pointer (some ⟨p, 0, none⟩), .pointer (some ⟨ps, 0, none⟩), .pointer (some ⟨pd, 0, none⟩)] w fun e w' => e = .returned (.int .i64 (blendI 4 x y a a2)) ∧ Below w.heap.size w w' := by
  have E := hide (implMeet_plus x y a a2 hs hd hsa hda)
  have hO : Hid (blendI 4 x y a a2 = min (outI 4 x y a a2) 255) := (min_cap _).symm
  generalize outI 4 x y a a2 = V at E hO
  rw [unhide hO]
  clear hs hd hsa hda hO
  obtain ⟨c, h1, h2⟩ := h
  obtain ⟨q0, q1, q2, q3⟩ := row4 h1
  obtain ⟨d0, d1, d2, d3⟩ := row4 h2
  clear h1 h2
  go_enter Try.func38, Try.ntmps38
  go_wp2_with fail
  go_fit (unhide E _)
  rintro e w1 ⟨rfl, hb⟩
  go_wp2_with fail
  go_ret
  exact ⟨rfl, hb⟩

theorem implBlendOf_plus (w : World) :
    Calls Try.prog 36 #[.int .i64 4] w fun e w' => e = .returned (.tuple #[.func (.func 64) #[] #[], .bool true]) ∧ Below w.heap.size w w' := by
  have EM := hide (implModeOk_any 4)
  rw [show inB 4 1 5 = true from rfl] at EM
  go_enter Try.func36, Try.ntmps36
  go_wp2_with fail
  go_fit (unhide EM _)
  rintro e w1 ⟨rfl, hw⟩
  rw [hw]
  clear hw w1
  go_wp2_with fail
  exact bodyPost_ret (v := .tuple #[.func (.func 64) #[] #[], .bool true]) (by simp [results, Try.results36, go_sem]) rfl ⟨rfl, al1_below _ _⟩

set_option maxHeartbeats 4000000 in
set_option maxRecDepth 100000 in
theorem implMix_out (p ps pd : Nat) (x y r g b a r2 g2 b2' a2 : Int) (hs : 0 ≤ x ∧ x ≤ 255) (hd : 0 ≤ y ∧ y ≤ 255) (hsa : 0 ≤ a ∧ a ≤ 255) (hda : 0 ≤ a2 ∧ a2 ≤ 255) (w : World) (h : MixAt w p ps pd (.func (.func 65) #[] #[]) r g b a r2 g2 b2' a2) :
    Calls Try.prog 38 #[.int .i64 x, .int .i64 y, .pointer (some ⟨p, 0, none⟩), .pointer (some ⟨ps, 0, none⟩), .pointer (some ⟨pd, 0, none⟩)] w fun e w' => e = .returned (.int .i64 (blendI 5 x y a a2)) ∧ Below w.heap.size w w' := by
  have E := hide (implMeet_out x y a a2 hs hd hsa hda)
  have hO : Hid (blendI 5 x y a a2 = min (outI 5 x y a a2) 255) := (min_cap _).symm
  generalize outI 5 x y a a2 = V at E hO
  rw [unhide hO]
  clear hs hd hsa hda hO
  obtain ⟨c, h1, h2⟩ := h
  obtain ⟨q0, q1, q2, q3⟩ := row4 h1
  obtain ⟨d0, d1, d2, d3⟩ := row4 h2
  clear h1 h2
  go_enter Try.func38, Try.ntmps38
  go_wp2_with fail
  go_fit (unhide E _)
  rintro e w1 ⟨rfl, hb⟩
  go_wp2_with fail
  go_ret
  exact ⟨rfl, hb⟩

theorem implBlendOf_out (w : World) :
    Calls Try.prog 36 #[.int .i64 5] w fun e w' => e = .returned (.tuple #[.func (.func 65) #[] #[], .bool true]) ∧ Below w.heap.size w w' := by
  have EM := hide (implModeOk_any 5)
  rw [show inB 5 1 5 = true from rfl] at EM
  go_enter Try.func36, Try.ntmps36
  go_wp2_with fail
  go_fit (unhide EM _)
  rintro e w1 ⟨rfl, hw⟩
  rw [hw]
  clear hw w1
  go_wp2_with fail
  exact bodyPost_ret (v := .tuple #[.func (.func 65) #[] #[], .bool true]) (by simp [results, Try.results36, go_sem]) rfl ⟨rfl, al1_below _ _⟩

theorem implBlendOf_none (m : Int) (h : m < 1 ∨ 5 < m) (w : World) :
    Calls Try.prog 36 #[.int .i64 m] w fun e w' => e = .returned (.tuple #[.nilFunc, .bool false]) ∧ w' = w := by
  have EM := hide (implModeOk_any m)
  rw [show inB m 1 5 = false by unfold inB; simp; omega] at EM
  clear h
  go_enter Try.func36, Try.ntmps36
  go_wp2_with fail
  go_fit (unhide EM _)
  rintro e w1 ⟨rfl, hw⟩
  rw [hw]
  clear hw w1
  go_wp2_with fail
  exact bodyPost_ret (v := .tuple #[.nilFunc, .bool false]) (by simp [results, Try.results36, go_sem]) rfl ⟨rfl, rfl⟩

theorem blend_not {m : Int} (hm : m < 1 ∨ 5 < m) {s d : B4} : blendC m s d = d := by
  unfold blendC
  split
  · rename_i h
    have hd := laidOk_iff.1 h.2
    unfold blendI outI
    rw [if_neg (by omega), if_neg (by omega), if_neg (by omega), if_neg (by omega), if_neg (by omega), if_neg (by omega), if_neg (by omega), if_neg (by omega), if_neg (by omega), if_neg (by omega), if_neg (by omega), if_neg (by omega), if_neg (by omega), if_neg (by omega), if_neg (by omega), if_neg (by omega), if_neg (by omega), if_neg (by omega), if_neg (by omega), if_neg (by omega), cap_id (by omega), cap_id (by omega), cap_id (by omega), cap_id (by omega)]
  · rfl

set_option maxHeartbeats 8000000 in
set_option maxRecDepth 100000 in
theorem implBlend_none (m : Int) (hm : m < 1 ∨ 5 < m) (r g b a r2 g2 b2' a2 : Int) (w : World) :
    Calls Try.prog 19 #[.int .i64 m, .agg #[.int .i64 r, .int .i64 g, .int .i64 b, .int .i64 a], .agg #[.int .i64 r2, .int .i64 g2, .int .i64 b2', .int .i64 a2]] w fun e w' => e = .returned (.agg #[.int .i64 ((blendC m ⟨r, g, b, a⟩ ⟨r2, g2, b2', a2⟩).x0), .int .i64 ((blendC m ⟨r, g, b, a⟩ ⟨r2, g2, b2', a2⟩).y0), .int .i64 ((blendC m ⟨r, g, b, a⟩ ⟨r2, g2, b2', a2⟩).x1), .int .i64 ((blendC m ⟨r, g, b, a⟩ ⟨r2, g2, b2', a2⟩).y1)]) ∧ Below w.heap.size w w' := by
  have EO := hide (implBlendOf_none m hm)
  have hC : Hid (blendC m ⟨r, g, b, a⟩ ⟨r2, g2, b2', a2⟩ = ⟨r2, g2, b2', a2⟩) := blend_not hm
  generalize blendC m ⟨r, g, b, a⟩ ⟨r2, g2, b2', a2⟩ = C at hC ⊢
  go_enter Try.func19, Try.ntmps19
  go_upto_region 1 with fail
  have R1 := hide (al3_0 w (.cells #[.int .i64 r, .int .i64 g, .int .i64 b, .int .i64 a] 42) (.cells #[.int .i64 r2, .int .i64 g2, .int .i64 b2', .int .i64 a2] 42) (.cells #[.int .i64 0, .int .i64 0, .int .i64 0, .int .i64 0] 42))
  have R2 := hide (al3_1 w (.cells #[.int .i64 r, .int .i64 g, .int .i64 b, .int .i64 a] 42) (.cells #[.int .i64 r2, .int .i64 g2, .int .i64 b2', .int .i64 a2] 42) (.cells #[.int .i64 0, .int .i64 0, .int .i64 0, .int .i64 0] 42))
  have R3 := hide (al3_2 w (.cells #[.int .i64 r, .int .i64 g, .int .i64 b, .int .i64 a] 42) (.cells #[.int .i64 r2, .int .i64 g2, .int .i64 b2', .int .i64 a2] 42) (.cells #[.int .i64 0, .int .i64 0, .int .i64 0, .int .i64 0] 42))
  have HB := hide (al3_below w (.cells #[.int .i64 r, .int .i64 g, .int .i64 b, .int .i64 a] 42) (.cells #[.int .i64 r2, .int .i64 g2, .int .i64 b2', .int .i64 a2] 42) (.cells #[.int .i64 0, .int .i64 0, .int .i64 0, .int .i64 0] 42))
  obtain ⟨b3, hb3⟩ : ∃ b, Hid (b = w.heap.size + 1 + 1) := ⟨_, rfl⟩
  obtain ⟨b2, hb2⟩ : ∃ b, Hid (b = w.heap.size + 1) := ⟨_, rfl⟩
  obtain ⟨b1, hb1⟩ : ∃ b, Hid (b = w.heap.size) := ⟨_, rfl⟩
  have lz : Hid (w.heap.size ≤ b3 ∧ b1 < b3 ∧ b2 < b3) := by unfold Hid; rw [unhide hb3, unhide hb2, unhide hb1]; omega
  rw [← unhide hb3] at R3
  rw [← unhide hb2] at R2
  rw [← unhide hb1] at R1
  rw [← unhide hb3, ← unhide hb2, ← unhide hb1]
  generalize ((w.alloc (.cells #[.int .i64 r, .int .i64 g, .int .i64 b, .int .i64 a] 42)).alloc (.cells #[.int .i64 r2, .int .i64 g2, .int .i64 b2', .int .i64 a2] 42)).alloc (.cells #[.int .i64 0, .int .i64 0, .int .i64 0, .int .i64 0] 42) = W at R1 R2 R3 HB ⊢
  clear hb3 hb2 hb1
  go_wp2_with fail
  go_fit (unhide EO _)
  rintro e w1 ⟨rfl, rfl⟩
  go_upto_region 2 with fail
  have R4 := hide (new_row w1 (.cells #[.nilFunc] 68))
  replace R1 := hide (old_row (.cells #[.nilFunc] 68) (unhide R1))
  replace R2 := hide (old_row (.cells #[.nilFunc] 68) (unhide R2))
  replace R3 := hide (old_row (.cells #[.nilFunc] 68) (unhide R3))
  replace HB := hide (below_two (unhide HB) (al1_below _ (.cells #[.nilFunc] 68)))
  obtain ⟨b4, hb4⟩ : ∃ b, Hid (b = w1.heap.size) := ⟨_, rfl⟩
  rw [← unhide hb4] at R4
  rw [← unhide hb4]
  generalize w1.alloc (.cells #[.nilFunc] 68) = V at R1 R2 R3 R4 HB ⊢
  clear hb4
  obtain ⟨q0, q1, q2, q3⟩ := row4 (unhide R1)
  obtain ⟨d0, d1, d2, d3⟩ := row4 (unhide R2)
  obtain ⟨e0, e1, e2, e3⟩ := row4 (unhide R3)
  obtain ⟨f0, f1, f2, f3⟩ := free4 (unhide R3)
  go_wp2_with fail
  refine bodyPost_ret (v := .agg #[.int .i64 r2, .int .i64 g2, .int .i64 b2', .int .i64 a2]) (by simp [results, Try.results19, go_sem, e0, e1, e2, e3]) rfl ⟨by rw [unhide hC], ?_⟩
  exact below_put4 (unhide HB) (unhide lz).1 _ _ _ _

end Go.Proofs.Ythelfgippiimiac
