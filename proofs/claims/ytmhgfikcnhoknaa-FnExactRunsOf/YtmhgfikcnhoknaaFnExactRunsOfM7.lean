/-
  RunsI · RunsX · OpenAgg · OpenPts · OpenPath · OpenMask: texts of one claim, in one.
-/
import Derived.Test.YtmhgfikcnhoknaaFnExactRunsOfM6
import Derived.Test.YtmhgfikcnhoknaaFnExactRunsOfM4
import Derived.Laws.AppendOwnNone
import Derived.Test.YtmhgfikcnhoknaaFnExactRunsOfM5
import Derived.Test.YtmhgfikcnhoknaaRows
import Derived.ProofKit
import Derived.OpenShut
import Derived.ChangeArms
import Derived.Test.YtmhgfikcnhoknaaFnExactRunsOfM2
import Derived.Deep.SlicePairs
import Derived.ChangeSlices

/-
  The program's runs: how far a row is alike, the runs of a row, the runs of a mask.
-/
namespace Go.Proofs.Ytmhgfikcnhoknaa
open Go.RowKit
set_option linter.unusedVariables false

set_option maxHeartbeats 4000000 in
set_option maxRecDepth 100000 in
theorem implAlike_any (v : Nat → Int) (s o l cp e : Nat) (hl : l ≤ 1048576) (h1 : 1 ≤ e) (h2 : e ≤ l) (h3 : ∀ i, i < e → v i = v 0) (h4 : e = l ∨ v e ≠ v 0) (w : World) (P : ∀ i, i < l → w.cell? ⟨s, o + i, none⟩ = some (.int .i64 (v i))) :
    Calls Try.prog 52 #[.slice (some ⟨s, o, none⟩) l cp] w fun r w' => r = .returned (.int .i64 (e : Int)) ∧ w' = w := by
  have g0 := P 0 (by omega)
  rw [Nat.add_zero] at g0
  obtain ⟨z, hz⟩ : ∃ z, Hid (v 0 = z) := ⟨_, rfl⟩
  rw [unhide hz] at g0 h4
  replace P := hide P
  replace h3 := hide h3
  replace h4 := hide h4
  go_enter Try.func52, Try.ntmps52
  go_upto_region 2 with fail
  go_loopw [7] (fun i u => ∃ k : Nat, k ≤ e ∧ i = .int .i64 (k : Int) ∧ u = w) (fun i _ => e - (intOf i).toNat)
  case atStart => exact ⟨0, Nat.zero_le _, rfl, rfl⟩
  case round =>
    obtain ⟨k, hk, rfl, rfl⟩ := hrel
    by_cases hke : k < e
    · have hkl : (k : Int) < (l : Int) := by omega
      have g1 := unhide P k (by omega)
      rw [unhide h3 k hke, unhide hz] at g1
      go_wp2_with fail
      go_roundw
      case rel => exact ⟨k + 1, by omega, by go_num, by trivial⟩
      case measure => simp [intOf]; omega
    · obtain rfl : k = e := by omega
      by_cases hkl : k < l
      · have hki : (k : Int) < (l : Int) := by omega
        have g1 := unhide P k hkl
        have hne : ¬ v k = z := by rcases unhide h4 with h | h; omega; exact h
        obtain ⟨y, hy⟩ : ∃ y, Hid (v k = y) := ⟨_, rfl⟩
        rw [unhide hy] at g1 hne
        have hb : (y == z) = false := beq_eq_false_iff_ne.2 hne
        go_wp2_with fail
        go_ret
        exact ⟨rfl, rfl⟩
      · obtain rfl : k = l := by omega
        have hki : ¬ (k : Int) < (k : Int) := by omega
        go_wp2_with fail
        go_ret
        exact ⟨rfl, rfl⟩

theorem rowR_zeros {g : Nat → Int} {W : Nat} : ∀ (k t : Nat), t + k ≤ W → (∀ i, t ≤ i → i < t + k → g i = 0) → rowR g W t = rowR g W (t + k)
  | 0, t, _, _ => rfl
  | k + 1, t, h1, h2 => by
    rw [rowR_zero (by omega) (h2 t (Nat.le_refl _) (by omega)), rowR_zeros k (t + 1) (by omega) (fun i h3 h4 => h2 i (by omega) (by omega))]
    congr 1; omega
theorem place_at {a b c : Int} {W0 : Nat} (hW : (W0 : Int) = c - a) (j t : Nat) : (placeI a b c (a + (t : Int)) (b + (j : Int))).toNat = j * W0 + t := by
  unfold placeI
  rw [show b + (j : Int) - b = (j : Int) by omega, ← hW, ← Int.natCast_mul]; omega
/-- 'append' of a list of runs of another call's onto one of the call's own. -/
theorem wpList_append_rs {P : Program} {w : World} {ops : Array Oper} {rest : List Oper} {o : Oper} {a : Act} {Q : Exit → Act → World → Prop} (hgd : o.guard = none) (s x : Operand) (t : TypeId)
    (ho : o.op = .call { callee := .builtin .append, args := #[s, x], argTypes := #[t, t] })
    (base : Nat) (i : TypeInfo) (z : Value) (ht : P.underlying t = some (.slice 60)) (hi : P.info? 60 = some i) (hz : i.zero = some z) (hsize : i.size = 4) (hby : i.bytes = 32) (hz1 : z.cells.size = 4)
    (v : Value) (l : List B4) (hs : a.eval s = v) (hown : w.ownsRow base 60 4 v l.length (rsV l))
    (v2 : Value) (base2 : Nat) (l2 : List B4) (hx : a.eval x = v2) (hown2 : w.ownsRow base2 60 4 v2 l2.length (rsV l2))
    (hn : l.length + l2.length ≤ 1048576) (hbase : base ≤ w.heap.size)
    (h : ∀ v' w', w'.ownsRow base 60 4 v' (l ++ l2).length (rsV (l ++ l2)) → Below base w w' → wpList P ops Q rest (a.put o.dst v') w') :
    wpList P ops Q (o :: rest) a w := by
  rcases hown2.2 with ⟨rfl, h0⟩ | ⟨g, cap, cur, rfl, hb, hg, hcap, hmax, hsz, htk⟩
  · obtain rfl : l2 = [] := List.eq_nil_of_length_eq_zero h0
    refine wpList_append_own_none hgd s x t ho base 60 i 4 ht hi v l.length (rsV l) hs hown hx ?_
    exact h v w (by rw [List.append_nil]; exact hown) (Below.refl _ _)
  · refine wpList_append_own w hgd s x t ho base 60 i z 4 32 ht hi hz hsize hby hz1 (by decide) v l.length (rsV l) hs hown ⟨g, 0, none⟩ l2.length cap (rsV l2) hx (rsV_len l2) ?_ ?_ (by unfold maxLen; omega) (by omega) hbase ?_
    · intro j u hj
      have hadd : (⟨g, 0, none⟩ : Addr).add j = ⟨g, j, none⟩ := by unfold Addr.add; split <;> simp_all
      have hjl : j < (rsV l2).length := by
        rcases Nat.lt_or_ge j (rsV l2).length with h | h
        · exact h
        · rw [List.getElem?_eq_none h] at hj; cases hj
      rw [hadd, hown2.cellAt _ (by rw [rsV_len] at hjl; exact hjl), hj]
    · intro u hu
      unfold rsV at hu
      rw [List.mem_flatMap] at hu
      obtain ⟨p, _, hp⟩ := hu
      simp [rnV] at hp
      rcases hp with rfl | rfl | rfl | rfl <;> rfl
    · intro v' w' ho' hg' _
      refine h v' w' ?_ ((Below.refl base w).grown hg' hbase (fun k hk => (hown.lt k hk).1))
      rw [List.length_append, rsV_app]; exact ho'

set_option maxHeartbeats 8000000 in
set_option maxRecDepth 100000 in
theorem implRunsOfRow_any (a b c d : Int) (f : Nat → Int) (s o n cp W0 j : Nat) (hb : boxInB a b c d = true) (hW : (W0 : Int) = c - a) (hj : (j : Int) < d - b) (hn : sqN a b c d = n) (hc : n ≤ cp) (w : World) (P : ∀ i, i < n → IntAt w (some ⟨s, o, none⟩) i (f i)) :
    Calls Try.prog 38 #[.agg #[.int .i64 a, .int .i64 b, .int .i64 c, .int .i64 d, .slice (some ⟨s, o, none⟩) n cp], .int .i64 (b + (j : Int))] w fun r w' => RunsRes w r w' ((rowR (fun i => f (j * W0 + i)) W0 0).map (runOf a (b + (j : Int)))) := by
  obtain ⟨i1, hi1, hz1, hs1, hb1⟩ := info_parts infoRun
  have hb0 := boxIn_iff.1 hb
  have hkn : j * W0 + W0 ≤ n := by
    have hst := stretch (x0 := a) (x1 := c) (y := b + (j : Int)) hb (by omega) (by omega)
    have := row_place (b := b) hW j
    rw [hn] at hst; omega
  have ER := hide (fun (t : Nat) (ht : t < W0) u => implRowOf_any a b c d (b + (j : Int)) (a + (t : Int)) c s o n cp hb (by omega) (by omega) hn hc u)
  have hpl := hide (fun t => place_at (b := b) hW j t)
  obtain ⟨gg, hgg⟩ : ∃ gg : Nat → Int, gg = fun i => f (j * W0 + i) := ⟨_, rfl⟩
  rw [← hgg]
  have EA := hide (fun (t e : Nat) (u : World) (h0 : t < W0) (h1 : 1 ≤ e) (h2 : e ≤ W0 - t) (h3 : ∀ i, i < e → gg (t + i) = gg (t + 0)) (h4 : e = W0 - t ∨ gg (t + e) ≠ gg (t + 0)) (hu : Below w.heap.size w u) => implAlike_any (fun i => gg (t + i)) s (o + (j * W0 + t)) (W0 - t) (W0 - t) e (by omega) h1 h2 h3 h4 u (fun i hi => by
    obtain ⟨s', o', hso, hc'⟩ := (P (j * W0 + t + i) (by omega)).next hu
    cases hso
    rw [hgg]
    simpa [Nat.add_assoc] using hc'))
  have P0 := hide (fun (t : Nat) (u : World) (h0 : t < W0) (hu : Below w.heap.size w u) => (show u.cell? ⟨s, o + (j * W0 + t), none⟩ = some (.int .i64 (gg t)) by
    obtain ⟨s', o', hso, hc'⟩ := (P (j * W0 + t) (by omega)).next hu
    cases hso
    rw [hgg]; exact hc'))
  have hRE := hide (fun (t : Nat) (h0 : t < W0) => runE_spec gg W0 (gg t) W0 (t + 1) (by omega) (by omega))
  have hll : Hid (((rowR gg W0 0).map (runOf a (b + (j : Int)))).length ≤ 60) := by
    unfold Hid; rw [List.length_map]; have := rowR_len gg W0 W0 0 (by omega); omega
  obtain ⟨NX, hNX⟩ : ∃ NX, Hid (NX = (rowR gg W0 0).map (runOf a (b + (j : Int)))) := ⟨_, rfl⟩
  rw [← unhide hNX] at hll ⊢
  clear P hgg hkn hn hc hj
  replace hNX : Hid (NX = [] ++ (rowR gg W0 0).map (runOf a (b + (j : Int)))) := by unfold Hid; rw [List.nil_append]; exact unhide hNX
  go_enter Try.func38, Try.ntmps38
  go_upto_region 2 with fail
  have R1 := hide (al2_0 w (.cells #[.int .i64 a, .int .i64 b, .int .i64 c, .int .i64 d, .slice (some ⟨s, o, none⟩) n cp] 30) (.cells #[] 60))
  have HB := hide (al2_below w (.cells #[.int .i64 a, .int .i64 b, .int .i64 c, .int .i64 d, .slice (some ⟨s, o, none⟩) n cp] 30) (.cells #[] 60))
  have O := hide (show ((w.alloc (.cells #[.int .i64 a, .int .i64 b, .int .i64 c, .int .i64 d, .slice (some ⟨s, o, none⟩) n cp] 30)).alloc (.cells #[] 60)).ownsRow (w.heap.size + 1) 60 4 (.slice (some ⟨w.heap.size + 1, 0, none⟩) 0 0) ([] : List B4).length (rsV []) by
    have h := World.ownsRow_lit (base := w.heap.size + 1) (e := 60) (size := 4) (w.alloc (.cells #[.int .i64 a, .int .i64 b, .int .i64 c, .int .i64 d, .slice (some ⟨s, o, none⟩) n cp] 30)) #[] 0 (by rw [al1_size]; exact Nat.le_refl _) (by decide) rfl
    rw [al1_size] at h
    exact h)
  obtain ⟨b3, hb3⟩ : ∃ b, Hid (b = w.heap.size + 1) := ⟨_, rfl⟩
  obtain ⟨b1, hb1'⟩ : ∃ b, Hid (b = w.heap.size) := ⟨_, rfl⟩
  rw [← unhide hb3] at O
  rw [← unhide hb1'] at R1
  rw [← unhide hb3, ← unhide hb1']
  generalize (w.alloc (.cells #[.int .i64 a, .int .i64 b, .int .i64 c, .int .i64 d, .slice (some ⟨s, o, none⟩) n cp] 30)).alloc (.cells #[] 60) = W at R1 HB O ⊢
  have lb : Hid (w.heap.size ≤ b3 ∧ b1 < b3) := by unfold Hid; rw [unhide hb3, unhide hb1']; omega
  have lbb : Hid (b3 = b1 + 1) := by unfold Hid; rw [unhide hb3, unhide hb1']
  clear hb3 hb1'
  obtain ⟨q0, q1, q2, q3, q4⟩ := row5m (unhide R1)
  go_upto_region 3 with fail
  clear q0 q1 q2 q3 q4
  go_loopw [5, 6] (fun v x u => ∃ (t : Nat) (M : List B4) (pp : Option Addr) (cq : Nat), t ≤ W0 ∧ x = .int .i64 (a + (t : Int)) ∧ v = .slice pp M.length cq ∧ Hid (NX = M ++ (rowR gg W0 t).map (runOf a (b + (j : Int)))) ∧ Hid (u.ownsRow b3 60 4 (.slice pp M.length cq) M.length (rsV M)) ∧ Hid (u.heap[b1]? = some (.cells #[.int .i64 a, .int .i64 b, .int .i64 c, .int .i64 d, .slice (some ⟨s, o, none⟩) n cp] 30 (0, 0))) ∧ Hid (Below w.heap.size w u)) (fun _ x _ => (c - intOf x).toNat)
  case atStart => exact ⟨0, [], _, _, Nat.zero_le _, by simp, rfl, hNX, O, R1, HB⟩
  case round =>
    clear O R1 HB hNX
    obtain ⟨t, M, pp, cq, ht, rfl, rfl, hM, O, R1, HB⟩ := hrel
    obtain ⟨q0, q1, q2, q3, q4⟩ := row5m (unhide R1)
    by_cases hlt : t < W0
    · have hti : a + (t : Int) < c := by omega
      have ER1 := hide (unhide ER t hlt)
      rw [unhide hpl t, show (c - (a + (t : Int))).toNat = W0 - t by omega] at ER1
      obtain ⟨r1, r2, r3, r4⟩ := unhide hRE t hlt
      generalize runE gg W0 (gg t) W0 (t + 1) = e at r1 r2 r3 r4
      have r3' : Hid (∀ i, t ≤ i → i < e → gg i = gg t) := fun i h1 h2 => by
        by_cases hie : i = t
        · rw [hie]
        · exact r3 i (by omega) h2
      have EA1 := hide (fun u hu => unhide EA t (e - t) u hlt (by omega) (by omega) (fun i hi => by rw [Nat.add_zero]; exact unhide r3' (t + i) (by omega) (by omega)) (by rw [Nat.add_zero, show t + (e - t) = e by omega]; rcases r4 with h | h; exact .inl (by omega); exact .inr h) hu)
      replace r4 := hide r4
      clear r3
      go_wp2_with fail
      go_fit (unhide ER1 _)
      rintro r w2 ⟨rfl, hb⟩
      replace R1 := hide (row_next hb (unhide R1))
      replace O := hide (own_below (unhide O) hb)
      replace HB := hide (below_two (unhide HB) hb)
      clear hb q0 q1 q2 q3 q4 ER1
      have g0 := unhide P0 t w2 hlt (unhide HB)
      obtain ⟨k, hk⟩ : ∃ k, Hid (k = j * W0 + t) := ⟨_, rfl⟩
      rw [← unhide hk] at EA1 g0 ⊢
      go_wp2_with fail
      go_fit (unhide EA1 _ (unhide HB))
      rintro r w3 ⟨rfl, rfl⟩
      have we : IntKind.i64.wrap (a + (t : Int) + ((e - t : Nat) : Int)) = a + (e : Int) := by
        rw [show a + (t : Int) + ((e - t : Nat) : Int) = a + (e : Int) by omega]; exact IntWalk.i64_in _ (by omega)
      have hl0 : 0 < W0 - t := by omega
      obtain ⟨z, hz⟩ : ∃ z, Hid (gg t = z) := ⟨_, rfl⟩
      rw [unhide hz] at g0 r3' r4
      clear EA1
      by_cases hz0 : z = 0
      · subst hz0
        have hM2 : Hid (NX = M ++ (rowR gg W0 e).map (runOf a (b + (j : Int)))) := by
          unfold Hid; rw [unhide hM, rowR_zeros (e - t) t (by omega) (fun i h1 h2 => unhide r3' i h1 (by omega)), show t + (e - t) = e by omega]
        go_wp2_with fail
        go_roundw
        case rel => exact ⟨e, M, pp, cq, r2, rfl, rfl, hM2, O, R1, HB⟩
        case measure => simp [intOf]; omega
      · have hzb : (z == 0) = false := beq_eq_false_iff_ne.2 hz0
        have hMM : Hid (NX = (M ++ [(⟨b + (j : Int), a + (t : Int), a + (e : Int), z⟩ : B4)]) ++ (rowR gg W0 e).map (runOf a (b + (j : Int)))) := by
          unfold Hid; rw [unhide hM, rowR_run (by omega) r2 hz0 (unhide r3') (unhide r4)]; simp [runOf]
        have hlm : Hid (M.length ≤ 1048576) := by
          have h1 := unhide hll
          rw [unhide hMM] at h1
          simp only [List.length_append, List.length_cons, List.length_nil] at h1
          unfold Hid; omega
        have hsz := hide (show b3 ≤ w3.heap.size by have h1 := heap_lt (unhide R1); have h2 := unhide lbb; omega)
        go_wp2_with (at_builtin; go_must (refine wpList_append_rn w3 rfl _ _ 36 rfl b3 i1 (.agg #[.int .i64 0, .int .i64 0, .int .i64 0, .int .i64 0]) Try.underlying36 hi1 hz1 hs1 hb1 rfl _ M (by rfl) (unhide O) (b + (j : Int)) (a + (t : Int)) (a + (e : Int)) z 1 rfl (unhide hlm) (unhide hsz) ?_); intro v4 w4 hown4 hb4)
        have R4 := hide ((hb4.block b1 (unhide lb).2).trans (unhide R1))
        have B4' := hide ((unhide HB).trans (hb4.mono (unhide lb).1))
        obtain ⟨pp4, cq4, rfl⟩ := own_form hown4
        replace hown4 := hide hown4
        clear hb4
        go_wp2_with fail
        go_roundw
        case rel => exact ⟨e, _, pp4, cq4, r2, rfl, rfl, hMM, hown4, R4, B4'⟩
        case measure => simp [intOf]; omega
    · obtain rfl : t = W0 := by omega
      have hti : ¬ a + (t : Int) < c := by omega
      have hX : Hid (NX = M) := by unfold Hid; rw [unhide hM, rowR_end (Nat.le_refl _)]; simp
      go_wp2_with fail
      go_ret
      rw [unhide hX]
      exact ⟨_, rfl, own_low (unhide O) (unhide lb).1, unhide HB⟩

set_option maxHeartbeats 8000000 in
set_option maxRecDepth 100000 in
theorem implRunsOf_any (a b c d : Int) (f : Nat → Int) (ao : Option Addr) (n cp : Nat) (hn : n ≤ 1048576) (hc : n ≤ cp) (w : World) (P : ∀ i, i < n → IntAt w ao i (f i)) :
    Calls Try.prog 14 #[.agg #[.int .i64 a, .int .i64 b, .int .i64 c, .int .i64 d, .slice ao n cp]] w fun r w' => RunsRes w r w' (runsM a b c d n f) := by
  obtain ⟨i1, hi1, hz1, hs1, hb1⟩ := info_parts infoRun
  have EM := hide (fun u (hu : Below w.heap.size w u) => implMaskOk_any a b c d f ao n cp hn u (fun i hi => (P i hi).next hu))
  have hR : Hid (runsM a b c d n f = if maskOkB a b c d n f = true then runsL a b c d f else []) := rfl
  have hK : Hid (maskOkB a b c d n f = true → MOk a b c d n f) := fun h => maskOk_iff.1 h
  generalize maskOkB a b c d n f = mo at EM hR hK
  obtain ⟨L, hL⟩ : ∃ L, Hid (runsM a b c d n f = L) := ⟨_, rfl⟩
  rw [unhide hL] at hR ⊢
  replace P := hide P
  go_enter Try.func14, Try.ntmps14
  go_upto_region 2 with fail
  have R1 := hide (al2_0 w (.cells #[.int .i64 a, .int .i64 b, .int .i64 c, .int .i64 d, .slice ao n cp] 30) (.cells #[] 60))
  have HB := hide (al2_below w (.cells #[.int .i64 a, .int .i64 b, .int .i64 c, .int .i64 d, .slice ao n cp] 30) (.cells #[] 60))
  have O := hide (show ((w.alloc (.cells #[.int .i64 a, .int .i64 b, .int .i64 c, .int .i64 d, .slice ao n cp] 30)).alloc (.cells #[] 60)).ownsRow (w.heap.size + 1) 60 4 (.slice (some ⟨w.heap.size + 1, 0, none⟩) 0 0) ([] : List B4).length (rsV []) by
    have h := World.ownsRow_lit (base := w.heap.size + 1) (e := 60) (size := 4) (w.alloc (.cells #[.int .i64 a, .int .i64 b, .int .i64 c, .int .i64 d, .slice ao n cp] 30)) #[] 0 (by rw [al1_size]; exact Nat.le_refl _) (by decide) rfl
    rw [al1_size] at h
    exact h)
  obtain ⟨b3, hb3⟩ : ∃ b, Hid (b = w.heap.size + 1) := ⟨_, rfl⟩
  obtain ⟨b1, hb1'⟩ : ∃ b, Hid (b = w.heap.size) := ⟨_, rfl⟩
  rw [← unhide hb3] at O
  rw [← unhide hb1'] at R1
  rw [← unhide hb3, ← unhide hb1']
  generalize (w.alloc (.cells #[.int .i64 a, .int .i64 b, .int .i64 c, .int .i64 d, .slice ao n cp] 30)).alloc (.cells #[] 60) = W at R1 HB O ⊢
  have lb : Hid (w.heap.size ≤ b3 ∧ b1 < b3) := by unfold Hid; rw [unhide hb3, unhide hb1']; omega
  have lbb : Hid (b3 = b1 + 1) := by unfold Hid; rw [unhide hb3, unhide hb1']
  clear hb3 hb1'
  obtain ⟨q0, q1, q2, q3, q4⟩ := row5m (unhide R1)
  go_wp2_with fail
  go_fit (unhide EM _ (unhide HB))
  rintro r w1 ⟨rfl, hb⟩
  replace R1 := hide (row_next hb (unhide R1))
  replace O := hide (own_below (unhide O) hb)
  replace HB := hide (below_two (unhide HB) hb)
  clear hb q0 q1 q2 q3 q4 EM
  cases mo with
  | false =>
    have hL0 : Hid (L = []) := by unfold Hid; rw [unhide hR]; simp
    go_wp2_with fail
    go_ret
    rw [unhide hL0]
    exact ⟨_, rfl, own_low (unhide O) (unhide lb).1, unhide HB⟩
  | true =>
  have hM := hide (unhide hK (by trivial))
  obtain ⟨W0, hW0⟩ : ∃ W0, W0 = wideN a c := ⟨_, rfl⟩
  obtain ⟨H0, hH0⟩ : ∃ H0, H0 = wideN b d := ⟨_, rfl⟩
  have hbx' : a ≤ c ∧ b ≤ d ∧ -2000 ≤ a ∧ -2000 ≤ b ∧ c ≤ 2000 ∧ d ≤ 2000 ∧ c - a ≤ 60 ∧ d - b ≤ 60 := by
    rcases unhide hM with ⟨_, rfl, rfl, rfl, rfl⟩ | ⟨_, h, _⟩
    · omega
    · rw [boxIn_iff] at h; omega
  have hWi : (W0 : Int) = c - a := by rw [hW0]; unfold wideN; omega
  have hHi : (H0 : Int) = d - b := by rw [hH0]; unfold wideN; omega
  have hL1 : Hid (L = runsN a b W0 f H0) := by
    unfold Hid; rw [unhide hR, hW0, hH0]; simp [runsL]
  have hbox : Hid (∀ j, j < H0 → boxInB a b c d = true ∧ sqN a b c d = n ∧ ∃ s o, ao = some ⟨s, o, none⟩) := fun j hj => by
    rcases unhide hM with ⟨_, rfl, rfl, rfl, rfl⟩ | ⟨h0, h, h2, _⟩
    · omega
    · obtain ⟨s, o, hso, _⟩ := unhide P 0 h0
      exact ⟨h, h2.symm, s, o, hso⟩
  have hWl : W0 ≤ 60 := by omega
  have hHl : H0 ≤ 60 := by omega
  clear hR hW0 hH0 hL hM hK
  obtain ⟨q0, q1, q2, q3, q4⟩ := row5m (unhide R1)
  go_upto_region 5 with fail
  clear q0 q1 q2 q3 q4
  go_loopw [3, 4] (fun v y u => ∃ (j : Nat) (pp : Option Addr) (cq : Nat), j ≤ H0 ∧ y = .int .i64 (b + (j : Int)) ∧ v = .slice pp (runsN a b W0 f j).length cq ∧ Hid (u.ownsRow b3 60 4 (.slice pp (runsN a b W0 f j).length cq) (runsN a b W0 f j).length (rsV (runsN a b W0 f j))) ∧ Hid (u.heap[b1]? = some (.cells #[.int .i64 a, .int .i64 b, .int .i64 c, .int .i64 d, .slice ao n cp] 30 (0, 0))) ∧ Hid (Below w.heap.size w u)) (fun _ y _ => (d - intOf y).toNat)
  case atStart => exact ⟨0, _, _, Nat.zero_le _, by simp, rfl, O, R1, HB⟩
  case round =>
    clear O R1 HB
    obtain ⟨j, pp, cq, hj, rfl, rfl, O, R1, HB⟩ := hrel
    obtain ⟨q0, q1, q2, q3, q4⟩ := row5m (unhide R1)
    by_cases hlt : j < H0
    · have hji : b + (j : Int) < d := by omega
      obtain ⟨bi, sq, s, o, rfl⟩ := unhide hbox j hlt
      have ER := hide (fun u (hu : Below w.heap.size w u) => implRunsOfRow_any a b c d f s o n cp W0 j bi hWi (by omega) sq hc u (fun i hi => (unhide P i hi).next hu))
      have hnx : Hid (runsN a b W0 f (j + 1) = runsN a b W0 f j ++ (rowR (fun i => f (j * W0 + i)) W0 0).map (runOf a (b + (j : Int)))) := rfl
      have hlen : Hid ((runsN a b W0 f (j + 1)).length ≤ 3600) := by
        have := runsN_len a b W0 f (j + 1)
        have : W0 * (j + 1) ≤ 60 * 60 := Nat.mul_le_mul hWl (by omega)
        unfold Hid; omega
      have wj : IntKind.i64.wrap (b + (j : Int) + 1) = b + (j : Int) + 1 := IntWalk.i64_in _ (by omega)
      generalize (rowR (fun i => f (j * W0 + i)) W0 0).map (runOf a (b + (j : Int))) = L2 at ER hnx
      obtain ⟨L1, hL1'⟩ : ∃ L1, Hid (L1 = runsN a b W0 f j) := ⟨_, rfl⟩
      rw [← unhide hL1'] at hnx O ⊢
      clear bi sq
      go_wp2_with fail
      go_fit (unhide ER _ (unhide HB))
      rintro r w2 ⟨v2, rfl, O2, hb⟩
      have hsz := hide (show b3 ≤ wr.heap.size by have h1 := heap_lt (unhide R1); have h2 := unhide lbb; omega)
      replace R1 := hide (row_next hb (unhide R1))
      replace O := hide (own_below (unhide O) hb)
      replace HB := hide (below_two (unhide HB) hb)
      have hsz2 := hide (Nat.le_trans (unhide hsz) hb.size)
      have hl12 : Hid (L1.length + L2.length ≤ 1048576) := by
        have h1 := unhide hlen
        rw [unhide hnx, List.length_append] at h1
        unfold Hid; omega
      obtain ⟨p2, c2, rfl⟩ := own_form O2
      replace O2 := hide O2
      clear hb q0 q1 q2 q3 q4 ER
      go_wp2_with (at_builtin; go_must (refine wpList_append_rs rfl _ _ 36 rfl b3 i1 (.agg #[.int .i64 0, .int .i64 0, .int .i64 0, .int .i64 0]) Try.underlying36 hi1 hz1 hs1 hb1 rfl _ L1 (by rfl) (unhide O) _ _ L2 (by rfl) (unhide O2) (unhide hl12) (unhide hsz2) ?_); intro v4 w4 hown4 hb4)
      have R4 := hide ((hb4.block b1 (unhide lb).2).trans (unhide R1))
      have B4' := hide ((unhide HB).trans (hb4.mono (unhide lb).1))
      obtain ⟨pp4, cq4, rfl⟩ := own_form hown4
      replace hown4 := hide hown4
      clear hb4
      go_wp2_with fail
      go_roundw
      case rel => exact ⟨j + 1, pp4, cq4, by omega, congrArg (Value.int .i64) (by push_cast; omega), by rw [unhide hnx], by rw [unhide hnx]; exact hown4, R4, B4'⟩
      case measure => simp [intOf]; omega
    · obtain rfl : j = H0 := by omega
      have hji : ¬ b + (j : Int) < d := by omega
      go_wp2_with fail
      go_ret
      rw [unhide hL1]
      exact ⟨_, rfl, own_low (unhide O) (unhide lb).1, unhide HB⟩
end Go.Proofs.Ytmhgfikcnhoknaa

/-
  The exact law of RunsOf, at the program's own contract.
-/
namespace Go.Proofs.Ytmhgfikcnhoknaa
open Go.RowKit
set_option linter.unusedVariables false

theorem fnExactRunsOf_walk (a b c d : Int) (ao : Option Addr) (n cp : Nat) (f : Nat → Int) (ha : (Lit.int .i64 a).wf = true) (hb : (Lit.int .i64 b).wf = true) (hc : (Lit.int .i64 c).wf = true) (hd : (Lit.int .i64 d).wf = true) (w : World) (hw : n ≤ maxLen ∧ ∀ i, i < n → IntAt w ao i (f i)) :
    Calls Try.prog 4 #[.agg #[.int .i64 a, .int .i64 b, .int .i64 c, .int .i64 d, .slice ao n cp]] w fun r w' => r = .returned (.bool true) ∧ Below w.heap.size w w' :=
  fnExactRunsOf_of implRunsOf_any a b c d ao n cp f w hw
end Go.Proofs.Ytmhgfikcnhoknaa

/-
  Flat structs of whole numbers that came in: their cells written out.
-/
namespace Go.Proofs.Ytmhgfikcnhoknaa
open Go.ChangeShapes Go.WideShapes

theorem array_2 {α : Type} {cs : Array α} (h : cs.size = 2) : ∃ c0 c1, cs = #[c0, c1] := by
  obtain ⟨l⟩ := cs
  match l, h with
  | [c0, c1], _ => exact ⟨c0, c1, rfl⟩

theorem open_struct2 {H : Type} {enc : TypeId × Value → H} {P : Program} {w : World} {r : Reach} {base b0 : Nat} {sp : Nat → Bool} {held : Bool} {t e : TypeId} {f0 f1 : Field} {v : Value} {d : DataW H} {p : List MemPlace}
    (hs : P.underlying t = some (.struct #[f0, f1])) (hf : [f0, f1].map (fun f => (f.offset, f.type)) = [(0, e), (1, e)]) (he : P.underlying e = some (.int .i64)) (hce : P.cellsOf e = 1) (hC : P.cellsOf t = 2)
    (hv : Value.okWide P w r b0 t v) (h : DataW.Trod enc P w base sp held t v d p) :
    ∃ a0 a1 : Int, v = .agg #[.int .i64 a0, .int .i64 a1] ∧ (Lit.int .i64 a0).wf = true ∧ (Lit.int .i64 a1).wf = true := by
  obtain ⟨cs, rfl, hsz⟩ := okWide_struct hs hv
  obtain ⟨c0, c1, rfl⟩ := array_2 (hsz.trans hC)
  obtain ⟨fuel, hh⟩ := h
  obtain ⟨xs, m, _, _, _, hl, hx⟩ := DataW.trod_struct hs hh
  have hl' : xs.length = 2 := hl
  simp only [List.map_cons, List.map_nil, List.cons.injEq, Prod.mk.injEq, and_true] at hf
  obtain ⟨⟨o0, t0⟩, ⟨o1, t1⟩⟩ := hf
  have g0 := hx 0 f0 rfl
  rw [o0, t0, hce, List.getElem?_eq_getElem (by omega)] at g0
  obtain ⟨z0, e0, _, w0⟩ := DataW.trod_int he g0
  simp [Value.cells] at e0
  have g1 := hx 1 f1 rfl
  rw [o1, t1, hce, List.getElem?_eq_getElem (by omega)] at g1
  obtain ⟨z1, e1, _, w1⟩ := DataW.trod_int he g1
  simp [Value.cells] at e1
  exact ⟨z0, z1, by rw [e0, e1], w0, w1⟩

theorem array_4 {α : Type} {cs : Array α} (h : cs.size = 4) : ∃ c0 c1 c2 c3, cs = #[c0, c1, c2, c3] := by
  obtain ⟨l⟩ := cs
  match l, h with
  | [c0, c1, c2, c3], _ => exact ⟨c0, c1, c2, c3, rfl⟩

theorem open_struct4 {H : Type} {enc : TypeId × Value → H} {P : Program} {w : World} {r : Reach} {base b0 : Nat} {sp : Nat → Bool} {held : Bool} {t e : TypeId} {f0 f1 f2 f3 : Field} {v : Value} {d : DataW H} {p : List MemPlace}
    (hs : P.underlying t = some (.struct #[f0, f1, f2, f3])) (hf : [f0, f1, f2, f3].map (fun f => (f.offset, f.type)) = [(0, e), (1, e), (2, e), (3, e)]) (he : P.underlying e = some (.int .i64)) (hce : P.cellsOf e = 1) (hC : P.cellsOf t = 4)
    (hv : Value.okWide P w r b0 t v) (h : DataW.Trod enc P w base sp held t v d p) :
    ∃ a0 a1 a2 a3 : Int, v = .agg #[.int .i64 a0, .int .i64 a1, .int .i64 a2, .int .i64 a3] ∧ (Lit.int .i64 a0).wf = true ∧ (Lit.int .i64 a1).wf = true ∧ (Lit.int .i64 a2).wf = true ∧ (Lit.int .i64 a3).wf = true := by
  obtain ⟨cs, rfl, hsz⟩ := okWide_struct hs hv
  obtain ⟨c0, c1, c2, c3, rfl⟩ := array_4 (hsz.trans hC)
  obtain ⟨fuel, hh⟩ := h
  obtain ⟨xs, m, _, _, _, hl, hx⟩ := DataW.trod_struct hs hh
  have hl' : xs.length = 4 := hl
  simp only [List.map_cons, List.map_nil, List.cons.injEq, Prod.mk.injEq, and_true] at hf
  obtain ⟨⟨o0, t0⟩, ⟨o1, t1⟩, ⟨o2, t2⟩, ⟨o3, t3⟩⟩ := hf
  have g0 := hx 0 f0 rfl
  rw [o0, t0, hce, List.getElem?_eq_getElem (by omega)] at g0
  obtain ⟨z0, e0, _, w0⟩ := DataW.trod_int he g0
  simp [Value.cells] at e0
  have g1 := hx 1 f1 rfl
  rw [o1, t1, hce, List.getElem?_eq_getElem (by omega)] at g1
  obtain ⟨z1, e1, _, w1⟩ := DataW.trod_int he g1
  simp [Value.cells] at e1
  have g2 := hx 2 f2 rfl
  rw [o2, t2, hce, List.getElem?_eq_getElem (by omega)] at g2
  obtain ⟨z2, e2, _, w2⟩ := DataW.trod_int he g2
  simp [Value.cells] at e2
  have g3 := hx 3 f3 rfl
  rw [o3, t3, hce, List.getElem?_eq_getElem (by omega)] at g3
  obtain ⟨z3, e3, _, w3⟩ := DataW.trod_int he g3
  simp [Value.cells] at e3
  exact ⟨z0, z1, z2, z3, by rw [e0, e1, e2, e3], w0, w1, w2, w3⟩

theorem array_6 {α : Type} {cs : Array α} (h : cs.size = 6) : ∃ c0 c1 c2 c3 c4 c5, cs = #[c0, c1, c2, c3, c4, c5] := by
  obtain ⟨l⟩ := cs
  match l, h with
  | [c0, c1, c2, c3, c4, c5], _ => exact ⟨c0, c1, c2, c3, c4, c5, rfl⟩

theorem open_struct6 {H : Type} {enc : TypeId × Value → H} {P : Program} {w : World} {r : Reach} {base b0 : Nat} {sp : Nat → Bool} {held : Bool} {t e : TypeId} {f0 f1 f2 f3 f4 f5 : Field} {v : Value} {d : DataW H} {p : List MemPlace}
    (hs : P.underlying t = some (.struct #[f0, f1, f2, f3, f4, f5])) (hf : [f0, f1, f2, f3, f4, f5].map (fun f => (f.offset, f.type)) = [(0, e), (1, e), (2, e), (3, e), (4, e), (5, e)]) (he : P.underlying e = some (.int .i64)) (hce : P.cellsOf e = 1) (hC : P.cellsOf t = 6)
    (hv : Value.okWide P w r b0 t v) (h : DataW.Trod enc P w base sp held t v d p) :
    ∃ a0 a1 a2 a3 a4 a5 : Int, v = .agg #[.int .i64 a0, .int .i64 a1, .int .i64 a2, .int .i64 a3, .int .i64 a4, .int .i64 a5] ∧ (Lit.int .i64 a0).wf = true ∧ (Lit.int .i64 a1).wf = true ∧ (Lit.int .i64 a2).wf = true ∧ (Lit.int .i64 a3).wf = true ∧ (Lit.int .i64 a4).wf = true ∧ (Lit.int .i64 a5).wf = true := by
  obtain ⟨cs, rfl, hsz⟩ := okWide_struct hs hv
  obtain ⟨c0, c1, c2, c3, c4, c5, rfl⟩ := array_6 (hsz.trans hC)
  obtain ⟨fuel, hh⟩ := h
  obtain ⟨xs, m, _, _, _, hl, hx⟩ := DataW.trod_struct hs hh
  have hl' : xs.length = 6 := hl
  simp only [List.map_cons, List.map_nil, List.cons.injEq, Prod.mk.injEq, and_true] at hf
  obtain ⟨⟨o0, t0⟩, ⟨o1, t1⟩, ⟨o2, t2⟩, ⟨o3, t3⟩, ⟨o4, t4⟩, ⟨o5, t5⟩⟩ := hf
  have g0 := hx 0 f0 rfl
  rw [o0, t0, hce, List.getElem?_eq_getElem (by omega)] at g0
  obtain ⟨z0, e0, _, w0⟩ := DataW.trod_int he g0
  simp [Value.cells] at e0
  have g1 := hx 1 f1 rfl
  rw [o1, t1, hce, List.getElem?_eq_getElem (by omega)] at g1
  obtain ⟨z1, e1, _, w1⟩ := DataW.trod_int he g1
  simp [Value.cells] at e1
  have g2 := hx 2 f2 rfl
  rw [o2, t2, hce, List.getElem?_eq_getElem (by omega)] at g2
  obtain ⟨z2, e2, _, w2⟩ := DataW.trod_int he g2
  simp [Value.cells] at e2
  have g3 := hx 3 f3 rfl
  rw [o3, t3, hce, List.getElem?_eq_getElem (by omega)] at g3
  obtain ⟨z3, e3, _, w3⟩ := DataW.trod_int he g3
  simp [Value.cells] at e3
  have g4 := hx 4 f4 rfl
  rw [o4, t4, hce, List.getElem?_eq_getElem (by omega)] at g4
  obtain ⟨z4, e4, _, w4⟩ := DataW.trod_int he g4
  simp [Value.cells] at e4
  have g5 := hx 5 f5 rfl
  rw [o5, t5, hce, List.getElem?_eq_getElem (by omega)] at g5
  obtain ⟨z5, e5, _, w5⟩ := DataW.trod_int he g5
  simp [Value.cells] at e5
  exact ⟨z0, z1, z2, z3, z4, z5, by rw [e0, e1, e2, e3, e4, e5], w0, w1, w2, w3, w4, w5⟩
end Go.Proofs.Ytmhgfikcnhoknaa

/-
  Lists of points that came in: their cells written out.
-/
namespace Go.Proofs.Ytmhgfikcnhoknaa
open Go.ChangeShapes Go.WideShapes Go.RowKit

theorem open_points {H : Type} {enc : TypeId × Value → H} {P : Program} {w : World} {base : Nat} {sp : Nat → Bool} {held : Bool} {t e : TypeId} {f0 f1 : Field} {a : Option Addr} {n c fuel : Nat} {x : DataW H × List MemPlace}
    (ht : P.underlying t = some (.slice e)) (he : P.underlying e = some (.struct #[f0, f1])) (ce : P.cellsOf e = 2) (o0 : f0.offset = 0) (o1 : f1.offset = 1) (c0 : P.cellsOf f0.type = 1) (c1 : P.cellsOf f1.type = 1)
    (k0 : P.underlying f0.type = some (.int .i64)) (k1 : P.underlying f1.type = some (.int .i64))
    (h : DataW.trod enc P w base sp held fuel t [.slice a n c] = some x) :
    ∃ f : Nat → Int × Int, n ≤ maxLen ∧ ∀ i, i < n → PtArg w a i (f i) := by
  rcases Go.Deep.open_slice_pairs ht he ce o0 o1 c0 c1 h with ⟨hcs, _⟩ | ⟨b, len, cap, m, q, V0, V1, D0, D1, P0, P1, hcs, _, hl, hm, hmm, _, hx⟩
  · simp at hcs
    obtain ⟨rfl, rfl, rfl⟩ := hcs
    exact ⟨fun _ => (0, 0), by unfold maxLen; omega, fun i hi => absurd hi (by omega)⟩
  · simp at hcs
    obtain ⟨rfl, rfl, rfl⟩ := hcs
    have hnm : n ≤ m := by rw [hmm]; split <;> omega
    have each : ∀ i, i < n → ∃ p : Int × Int, PtArg w (some b) i p := by
      intro i hi
      obtain ⟨g0, g1, r0, r1⟩ := hx i (by omega)
      obtain ⟨z0, e0, _, _⟩ := DataW.trod_int k0 r0
      obtain ⟨z1, e1, _, _⟩ := DataW.trod_int k1 r1
      simp at e0 e1
      rw [e0] at g0
      rw [e1] at g1
      obtain ⟨bb, off, spot⟩ := b
      have hs := World.cell?_spot (hx 0 (by omega)).1
      have hspot : spot = none := by simpa [Addr.add] using hs
      subst hspot
      refine ⟨(z0, z1), bb, off, rfl, ?_, ?_⟩
      · by_cases hi0 : i = 0
        · subst hi0; simpa [Addr.add] using g0
        · have : i * 2 ≠ 0 := by omega
          rw [Addr.add, if_neg this] at g0; exact g0
      · simpa [Addr.add, Nat.add_assoc] using g1
    obtain ⟨f, hf⟩ := Go.Deep.choose_lt each
    exact ⟨f, by omega, hf⟩
end Go.Proofs.Ytmhgfikcnhoknaa

/-
  Paths that came in: their cells written out.
-/
namespace Go.Proofs.Ytmhgfikcnhoknaa
open Go.ChangeShapes Go.WideShapes Go.RowKit

theorem spot_none {w : World} {b : Addr} {v : Value} (h : w.cell? (b.add 0) = some v) : b.spot = none := by
  have hs := World.cell?_spot h
  simpa [Addr.add] using hs

theorem open_ilist {H : Type} {enc : TypeId × Value → H} {P : Program} {w : World} {base : Nat} {sp : Nat → Bool} {held : Bool} {t e : TypeId} {c : Value} {fuel : Nat} {x : DataW H × List MemPlace}
    (ht : P.underlying t = some (.slice e)) (he : P.underlying e = some (.int .i64)) (hc : P.cellsOf e = 1) (h : DataW.trod enc P w base sp held fuel t [c] = some x) :
    ∃ (a : Option Addr) (n cap : Nat) (f : Nat → Int), c = .slice a n cap ∧ n ≤ maxLen ∧ ∀ i, i < n → IntAt w a i (f i) := by
  rcases open_ints ht he hc h with ⟨hcs, _⟩ | ⟨b, l, cap, zs, hcs, _, hl, hm, hz, _, hcell, hwz⟩
  · simp at hcs
    exact ⟨none, 0, 0, fun _ => 0, hcs, by unfold maxLen; omega, fun i hi => absurd hi (by omega)⟩
  · simp at hcs
    have hlz : l ≤ zs.length := by rw [hz]; split <;> omega
    refine ⟨some b, l, cap, fun i => zs.getD i 0, hcs, by omega, fun i hi => ?_⟩
    have h0 := spot_none (hcell 0 (by omega))
    obtain ⟨bb, off, spot⟩ := b
    dsimp only at h0
    subst h0
    have hi' := hcell i (by omega)
    have hadd : (⟨bb, off, none⟩ : Addr).add i = ⟨bb, off + i, none⟩ := by unfold Addr.add; split <;> simp_all
    rw [hadd] at hi'
    exact ⟨bb, off, rfl, hi'⟩

theorem open_plist {H : Type} {enc : TypeId × Value → H} {P : Program} {w : World} {base : Nat} {sp : Nat → Bool} {held : Bool} {t e : TypeId} {f0 f1 : Field} {c : Value} {fuel : Nat} {x : DataW H × List MemPlace}
    (ht : P.underlying t = some (.slice e)) (he : P.underlying e = some (.struct #[f0, f1])) (ce : P.cellsOf e = 2) (o0 : f0.offset = 0) (o1 : f1.offset = 1) (c0 : P.cellsOf f0.type = 1) (c1 : P.cellsOf f1.type = 1)
    (k0 : P.underlying f0.type = some (.int .i64)) (k1 : P.underlying f1.type = some (.int .i64))
    (h : DataW.trod enc P w base sp held fuel t [c] = some x) :
    ∃ (a : Option Addr) (n cap : Nat) (f : Nat → Int × Int), c = .slice a n cap ∧ n ≤ maxLen ∧ ∀ i, i < n → PtArg w a i (f i) := by
  rcases Go.Deep.open_slice_pairs ht he ce o0 o1 c0 c1 h with ⟨hcs, _⟩ | ⟨b, len, cap, m, q, V0, V1, D0, D1, P0, P1, hcs, _, hl, hm, hmm, _, hx⟩
  · simp at hcs
    subst hcs
    obtain ⟨f, h1, h2⟩ := open_points ht he ce o0 o1 c0 c1 k0 k1 h
    exact ⟨_, _, _, f, rfl, h1, h2⟩
  · simp at hcs
    subst hcs
    obtain ⟨f, h1, h2⟩ := open_points ht he ce o0 o1 c0 c1 k0 k1 h
    exact ⟨_, _, _, f, rfl, h1, h2⟩

theorem open_path {H : Type} {enc : TypeId × Value → H} {P : Program} {w : World} {r : Reach} {base b0 : Nat} {sp : Nat → Bool} {held : Bool} {t t0 t1 e0 e1 : TypeId} {f0 f1 g0 g1 : Field} {v : Value} {d : DataW H} {p : List MemPlace}
    (hs : P.underlying t = some (.struct #[f0, f1])) (hf : [f0, f1].map (fun f => (f.offset, f.type)) = [(0, t0), (1, t1)]) (hc0 : P.cellsOf t0 = 1) (hc1 : P.cellsOf t1 = 1) (hC : P.cellsOf t = 2)
    (s0 : P.underlying t0 = some (.slice e0)) (s1 : P.underlying t1 = some (.slice e1)) (i0 : P.underlying e0 = some (.int .i64)) (ce0 : P.cellsOf e0 = 1)
    (he : P.underlying e1 = some (.struct #[g0, g1])) (ce : P.cellsOf e1 = 2) (o0 : g0.offset = 0) (o1 : g1.offset = 1) (c0 : P.cellsOf g0.type = 1) (c1 : P.cellsOf g1.type = 1) (k0 : P.underlying g0.type = some (.int .i64)) (k1 : P.underlying g1.type = some (.int .i64))
    (hv : Value.okWide P w r b0 t v) (h : DataW.Trod enc P w base sp held t v d p) :
    ∃ (a : Option Addr) (n c : Nat) (vf : Nat → Int) (b : Option Addr) (m d : Nat) (pf : Nat → Int × Int), v = .agg #[.slice a n c, .slice b m d] ∧ n ≤ maxLen ∧ (∀ i, i < n → IntAt w a i (vf i)) ∧ m ≤ maxLen ∧ ∀ i, i < m → PtArg w b i (pf i) := by
  obtain ⟨cs, rfl, hsz⟩ := okWide_struct hs hv
  obtain ⟨x0, x1, rfl⟩ := array_2 (hsz.trans hC)
  obtain ⟨fuel, hh⟩ := h
  obtain ⟨xs, m', _, _, _, hl, hx⟩ := DataW.trod_struct hs hh
  have hl' : xs.length = 2 := hl
  simp only [List.map_cons, List.map_nil, List.cons.injEq, Prod.mk.injEq, and_true] at hf
  obtain ⟨⟨q0, r0⟩, ⟨q1, r1⟩⟩ := hf
  have y0 := hx 0 f0 rfl
  rw [q0, r0, hc0, List.getElem?_eq_getElem (by omega)] at y0
  have y1 := hx 1 f1 rfl
  rw [q1, r1, hc1, List.getElem?_eq_getElem (by omega)] at y1
  simp [Value.cells] at y0 y1
  obtain ⟨a, n, c, vf, rfl, h1, h2⟩ := open_ilist s0 i0 ce0 y0
  obtain ⟨b, m, d, pf, rfl, h3, h4⟩ := open_plist s1 he ce o0 o1 c0 c1 k0 k1 y1
  exact ⟨a, n, c, vf, b, m, d, pf, rfl, h1, h2, h3, h4⟩
end Go.Proofs.Ytmhgfikcnhoknaa

/-
  Masks that came in: their cells written out.
-/
namespace Go.Proofs.Ytmhgfikcnhoknaa
open Go.ChangeShapes Go.WideShapes Go.RowKit

theorem array_5 {α : Type} {cs : Array α} (h : cs.size = 5) : ∃ c0 c1 c2 c3 c4, cs = #[c0, c1, c2, c3, c4] := by
  obtain ⟨l⟩ := cs
  match l, h with
  | [c0, c1, c2, c3, c4], _ => exact ⟨c0, c1, c2, c3, c4, rfl⟩

theorem open_box {H : Type} {enc : TypeId × Value → H} {P : Program} {w : World} {base : Nat} {sp : Nat → Bool} {held : Bool} {t e : TypeId} {f0 f1 f2 f3 : Field} {c0 c1 c2 c3 : Value} {fuel : Nat} {x : DataW H × List MemPlace}
    (hs : P.underlying t = some (.struct #[f0, f1, f2, f3])) (hf : [f0, f1, f2, f3].map (fun f => (f.offset, f.type)) = [(0, e), (1, e), (2, e), (3, e)]) (he : P.underlying e = some (.int .i64)) (hce : P.cellsOf e = 1)
    (h : DataW.trod enc P w base sp held fuel t [c0, c1, c2, c3] = some x) :
    ∃ a0 a1 a2 a3 : Int, c0 = .int .i64 a0 ∧ c1 = .int .i64 a1 ∧ c2 = .int .i64 a2 ∧ c3 = .int .i64 a3 ∧ (Lit.int .i64 a0).wf = true ∧ (Lit.int .i64 a1).wf = true ∧ (Lit.int .i64 a2).wf = true ∧ (Lit.int .i64 a3).wf = true := by
  obtain ⟨xs, m, _, _, _, hl, hx⟩ := DataW.trod_struct hs h
  have hl' : xs.length = 4 := hl
  simp only [List.map_cons, List.map_nil, List.cons.injEq, Prod.mk.injEq, and_true] at hf
  obtain ⟨⟨o0, t0⟩, ⟨o1, t1⟩, ⟨o2, t2⟩, ⟨o3, t3⟩⟩ := hf
  have g0 := hx 0 f0 rfl
  rw [o0, t0, hce, List.getElem?_eq_getElem (by omega)] at g0
  obtain ⟨z0, e0, _, w0⟩ := DataW.trod_int he g0
  simp at e0
  have g1 := hx 1 f1 rfl
  rw [o1, t1, hce, List.getElem?_eq_getElem (by omega)] at g1
  obtain ⟨z1, e1, _, w1⟩ := DataW.trod_int he g1
  simp at e1
  have g2 := hx 2 f2 rfl
  rw [o2, t2, hce, List.getElem?_eq_getElem (by omega)] at g2
  obtain ⟨z2, e2, _, w2⟩ := DataW.trod_int he g2
  simp at e2
  have g3 := hx 3 f3 rfl
  rw [o3, t3, hce, List.getElem?_eq_getElem (by omega)] at g3
  obtain ⟨z3, e3, _, w3⟩ := DataW.trod_int he g3
  simp at e3
  exact ⟨z0, z1, z2, z3, e0, e1, e2, e3, w0, w1, w2, w3⟩

theorem open_mask {H : Type} {enc : TypeId × Value → H} {P : Program} {w : World} {r : Reach} {base b0 : Nat} {sp : Nat → Bool} {held : Bool} {t tb ts e e0 : TypeId} {f0 f1 g0 g1 g2 g3 : Field} {v : Value} {d : DataW H} {p : List MemPlace}
    (hs : P.underlying t = some (.struct #[f0, f1])) (hf : [f0, f1].map (fun f => (f.offset, f.type)) = [(0, tb), (4, ts)]) (hc0 : P.cellsOf tb = 4) (hc1 : P.cellsOf ts = 1) (hC : P.cellsOf t = 5)
    (hb : P.underlying tb = some (.struct #[g0, g1, g2, g3])) (hg : [g0, g1, g2, g3].map (fun f => (f.offset, f.type)) = [(0, e), (1, e), (2, e), (3, e)]) (he : P.underlying e = some (.int .i64)) (hce : P.cellsOf e = 1)
    (hl : P.underlying ts = some (.slice e0)) (i0 : P.underlying e0 = some (.int .i64)) (ce0 : P.cellsOf e0 = 1)
    (hv : Value.okWide P w r b0 t v) (h : DataW.Trod enc P w base sp held t v d p) :
    ∃ (x0 y0 x1 y1 : Int) (a : Option Addr) (n c : Nat) (f : Nat → Int), v = .agg #[.int .i64 x0, .int .i64 y0, .int .i64 x1, .int .i64 y1, .slice a n c] ∧ n ≤ maxLen ∧ (∀ i, i < n → IntAt w a i (f i)) ∧ (Lit.int .i64 x0).wf = true ∧ (Lit.int .i64 y0).wf = true ∧ (Lit.int .i64 x1).wf = true ∧ (Lit.int .i64 y1).wf = true := by
  obtain ⟨cs, rfl, hsz⟩ := okWide_struct hs hv
  obtain ⟨c0, c1, c2, c3, c4, rfl⟩ := array_5 (hsz.trans hC)
  obtain ⟨fuel, hh⟩ := h
  obtain ⟨xs, m', _, _, _, hl', hx⟩ := DataW.trod_struct hs hh
  have hl2 : xs.length = 2 := hl'
  simp only [List.map_cons, List.map_nil, List.cons.injEq, Prod.mk.injEq, and_true] at hf
  obtain ⟨⟨q0, r0⟩, ⟨q1, r1⟩⟩ := hf
  have y0 := hx 0 f0 rfl
  rw [q0, r0, hc0, List.getElem?_eq_getElem (by omega)] at y0
  have y1 := hx 1 f1 rfl
  rw [q1, r1, hc1, List.getElem?_eq_getElem (by omega)] at y1
  simp [Value.cells] at y0 y1
  obtain ⟨z0, z1, z2, z3, rfl, rfl, rfl, rfl, w0, w1, w2, w3⟩ := open_box hb hg he hce y0
  obtain ⟨a, n, c, vf, rfl, h1, h2⟩ := open_ilist hl i0 ce0 y1
  exact ⟨z0, z1, z2, z3, a, n, c, vf, rfl, h1, h2, w0, w1, w2, w3⟩
end Go.Proofs.Ytmhgfikcnhoknaa
