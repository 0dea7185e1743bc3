/-
  RunRow · MaskU · BoxRow · RunL · MaskY · WindA · WindI · WindJ · MaskK · MaskOfX: texts of one claim, in one.
-/
import Derived.Test.YtmomgbnhildpdabFnMaskOfM1
import Derived.Test.YtmomgbnhildpdabFnMaskOfM2
import Derived.Test.YtmomgbnhildpdabFnMaskOfM6
import Derived.Test.YtmomgbnhildpdabFnMaskOfM3

/-
  Rows of runs: how they lie in memory, and how one more is laid behind them.
-/
namespace Go.Proofs.Ytmomgbnhildpdab
open Go.RowKit

theorem infoRun : (Try.prog.info? 57).map (fun i => (i.zero, i.size, i.bytes)) = some (some (.agg #[.int .i64 0, .int .i64 0, .int .i64 0, .int .i64 0]), 4, 32) := by kernel_rfl

/-- A run: Y, X0, X1, Bits. -/
def rnV (p : B4) : List Value := [.int .i64 p.x0, .int .i64 p.y0, .int .i64 p.x1, .int .i64 p.y1]
def rsV (l : List B4) : List Value := l.flatMap rnV
theorem rsV_len (l : List B4) : (rsV l).length = l.length * 4 := by
  induction l with
  | nil => rfl
  | cons p l ih => change (rnV p ++ rsV l).length = _; rw [List.length_append, ih]; simp [rnV]; omega
theorem rsV_app (l m : List B4) : rsV (l ++ m) = rsV l ++ rsV m := by unfold rsV; rw [List.flatMap_append]
theorem rsV_get (l : List B4) (i : Nat) (h : i < l.length) : (rsV l)[i * 4]? = some (.int .i64 l[i].x0) ∧ (rsV l)[i * 4 + 1]? = some (.int .i64 l[i].y0) ∧ (rsV l)[i * 4 + 2]? = some (.int .i64 l[i].x1) ∧ (rsV l)[i * 4 + 3]? = some (.int .i64 l[i].y1) := by
  induction l generalizing i with
  | nil => exact absurd h (by simp)
  | cons p l ih =>
    change (rnV p ++ rsV l)[i * 4]? = _ ∧ (rnV p ++ rsV l)[i * 4 + 1]? = _ ∧ (rnV p ++ rsV l)[i * 4 + 2]? = _ ∧ (rnV p ++ rsV l)[i * 4 + 3]? = _
    cases i with
    | zero => exact ⟨rfl, rfl, rfl, rfl⟩
    | succ i =>
      have hi : i < l.length := by simpa using h
      obtain ⟨h1, h2, h3, h4⟩ := ih i hi
      rw [List.getElem?_append_right (by simp [rnV]; omega), List.getElem?_append_right (by simp [rnV]; omega), List.getElem?_append_right (by simp [rnV]; omega), List.getElem?_append_right (by simp [rnV]; omega)]
      refine ⟨?_, ?_, ?_, ?_⟩
      · rw [show (i + 1) * 4 - (rnV p).length = i * 4 by simp [rnV]; omega]; exact h1
      · rw [show (i + 1) * 4 + 1 - (rnV p).length = i * 4 + 1 by simp [rnV]; omega]; exact h2
      · rw [show (i + 1) * 4 + 2 - (rnV p).length = i * 4 + 2 by simp [rnV]; omega]; exact h3
      · rw [show (i + 1) * 4 + 3 - (rnV p).length = i * 4 + 3 by simp [rnV]; omega]; exact h4
/-- Number i of a row of runs, wherever it begins. -/
def RnAt (w : World) (a : Option Addr) (i : Nat) (p : B4) : Prop :=
  ∃ s o, a = some ⟨s, o, none⟩ ∧ w.cell? ⟨s, o + i * 4, none⟩ = some (.int .i64 p.x0) ∧ w.cell? ⟨s, o + i * 4 + 1, none⟩ = some (.int .i64 p.y0) ∧ w.cell? ⟨s, o + i * 4 + 2, none⟩ = some (.int .i64 p.x1) ∧ w.cell? ⟨s, o + i * 4 + 3, none⟩ = some (.int .i64 p.y1)
theorem RnAt.next {w w1 : World} {a : Option Addr} {i : Nat} {p : B4} (h : RnAt w a i p) (hb : Below w.heap.size w w1) : RnAt w1 a i p :=
  let ⟨s, o, h1, h2, h3, h4, h5⟩ := h; ⟨s, o, h1, kc hb h2, kc hb h3, kc hb h4, kc hb h5⟩
theorem own_rn {w : World} {base t : Nat} {v : Value} {l : List B4} (h : w.ownsRow base t 4 v l.length (rsV l)) :
    ∃ a cap, v = .slice a l.length cap ∧ l.length ≤ cap ∧ ∀ i (hi : i < l.length), RnAt w a i l[i] := by
  rcases h.2 with ⟨rfl, h0⟩ | ⟨g, cap, cur, rfl, h3, h4, h5, h6, _⟩
  · exact ⟨none, 0, by rw [h0], by omega, fun i hi => absurd hi (by omega)⟩
  · refine ⟨some ⟨g, 0, none⟩, cap, rfl, h5, fun i hi => ⟨g, 0, rfl, ?_, ?_, ?_, ?_⟩⟩
    · rw [Nat.zero_add, h.cellAt _ (by omega)]; exact (rsV_get l i hi).1
    · rw [Nat.zero_add, h.cellAt _ (by omega)]; exact (rsV_get l i hi).2.1
    · rw [Nat.zero_add, h.cellAt _ (by omega)]; exact (rsV_get l i hi).2.2.1
    · rw [Nat.zero_add, h.cellAt _ (by omega)]; exact (rsV_get l i hi).2.2.2
/-- 'append' of one run onto a row of the call's own. -/
theorem wpList_append_rn {P : Program} {ops : Array Oper} {rest : List Oper} {o : Oper} {a : Act} {Q : Exit → Act → World → Prop} (wr : World) (hgd : o.guard = none) (s x : Operand) (t : TypeId)
    (ho : o.op = .call { callee := .builtin .append, args := #[s, x], argTypes := #[t, t] })
    (base : Nat) (i : TypeInfo) (z : Value) (ht : P.underlying t = some (.slice 57)) (hi : P.info? 57 = some i) (hz : i.zero = some z) (hsize : i.size = 4) (hby : i.bytes = 32) (hz1 : z.cells.size = 4)
    (v : Value) (l : List B4) (hs : a.eval s = v) (hown : wr.ownsRow base 57 4 v l.length (rsV l))
    (p q u k : Int) (c : Nat) (hx : a.eval x = .slice (some ⟨wr.heap.size, 0, none⟩) 1 c)
    (hn : l.length ≤ 1048576) (hbase : base ≤ wr.heap.size)
    (h : ∀ v' w', w'.ownsRow base 57 4 v' (l ++ [(⟨p, q, u, k⟩ : B4)]).length (rsV (l ++ [(⟨p, q, u, k⟩ : B4)])) → Below base wr w' → wpList P ops Q rest (a.put o.dst v') w') :
    wpList P ops Q (o :: rest) a (wr.alloc (.cells #[.int .i64 p, .int .i64 q, .int .i64 u, .int .i64 k] 57)) := by
  refine wpList_append_own (wr.alloc (.cells #[.int .i64 p, .int .i64 q, .int .i64 u, .int .i64 k] 57)) hgd s x t ho base 57 i z 4 32 ht hi hz hsize hby hz1 (by decide) v l.length (rsV l) hs (hown.alloc _) ⟨wr.heap.size, 0, none⟩ 1 c (rnV ⟨p, q, u, k⟩) hx (by simp [rnV]) ?_ (by intro x hx; simp [rnV] at hx; rcases hx with rfl | rfl | rfl | rfl <;> rfl) (by unfold maxLen; omega) (by omega) (by simp; omega) ?_
  · intro j x hj
    have hadd : (⟨wr.heap.size, 0, none⟩ : Addr).add j = ⟨wr.heap.size, j, none⟩ := by unfold Addr.add; split <;> simp_all
    rw [hadd, World.cell?_alloc_mark wr #[.int .i64 p, .int .i64 q, .int .i64 u, .int .i64 k] 57 (0, 0) j, ← hj]
    simp [rnV]
  · intro v' w' ho' hg _
    refine h v' w' ?_ ?_
    · have e1 : (l ++ [(⟨p, q, u, k⟩ : B4)]).length = l.length + 1 := by simp
      have e2 : rsV (l ++ [(⟨p, q, u, k⟩ : B4)]) = rsV l ++ rnV ⟨p, q, u, k⟩ := by rw [rsV_app]; simp [rsV]
      rw [e1, e2]; exact ho'
    · exact ((Below.refl base wr).alloc hbase _).grown hg (by simp; omega) (fun k hk => (hown.lt k hk).1)
/-- A call hands back a list of runs of its own. -/
def RunsRes (w : World) (r : Ending) (w' : World) (l : List B4) : Prop :=
  ∃ v, r = .returned v ∧ w'.ownsRow w.heap.size 57 4 v l.length (rsV l) ∧ Below w.heap.size w w'
end Go.Proofs.Ytmomgbnhildpdab

/-
  The specification's RunsOf.
-/
namespace Go.Proofs.Ytmomgbnhildpdab
open Go.RowKit
set_option linter.unusedVariables false

theorem at_row {a b c d : Int} {f : Nat → Int} {W0 H0 : Nat} (hW : (W0 : Int) = c - a) (hH : (H0 : Int) = d - b) {j t : Nat} (hj : j < H0) (ht : t < W0) : atI a b c d f (a + (t : Int)) (b + (j : Int)) = f (j * W0 + t) := by
  have hin : inBoxB a b c d (a + (t : Int)) (b + (j : Int)) = true := by
    unfold inBoxB
    rw [decide_eq_true (by omega), decide_eq_true (by omega), decide_eq_true (by omega), decide_eq_true (by omega)]; rfl
  unfold atI
  rw [if_pos hin]
  congr 1
  unfold placeI
  rw [← hW]
  have p3 : b + (j : Int) - b = (j : Int) := by omega
  have p4 : (j : Int) * (W0 : Int) = ((j * W0 : Nat) : Int) := (Int.natCast_mul _ _).symm
  rw [p3, p4]; omega

set_option maxHeartbeats 8000000 in
set_option maxRecDepth 100000 in
theorem specRunsOf_any (a b c d : Int) (f : Nat → Int) (ao : Option Addr) (n cp : Nat) (hn : n ≤ 1048576) (w : World) (P : ∀ i, i < n → IntAt w ao i (f i)) :
    Calls Try.prog 70 #[.agg #[.int .i64 a, .int .i64 b, .int .i64 c, .int .i64 d, .slice ao n cp]] w fun r w' => RunsRes w r w' (runsM a b c d n f) := by
  obtain ⟨i1, hi1, hz1, hs1, hb1⟩ := info_parts infoRun
  have EM := hide (fun u P => specMaskOk_any a b c d f ao n cp hn u P)
  have EL := hide (fun (h : maskOkB a b c d n f = true) (x y : Int) u P => specL11Bits_any a b c d f ao n cp hn x y u P (maskOk_iff.1 h))
  have hR : Hid (runsM a b c d n f = if maskOkB a b c d n f = true then runsL a b c d f else []) := rfl
  have hbx : Hid (maskOkB a b c d n f = true → a ≤ c ∧ b ≤ d ∧ -2000 ≤ a ∧ -2000 ≤ b ∧ c ≤ 2000 ∧ d ≤ 2000 ∧ c - a ≤ 60 ∧ d - b ≤ 60) := fun h => by
    rcases maskOk_iff.1 h with ⟨_, rfl, rfl, rfl, rfl⟩ | ⟨_, h, _⟩
    · omega
    · rw [boxIn_iff] at h; omega
  generalize maskOkB a b c d n f = mo at EM EL hR hbx
  obtain ⟨L, hL⟩ : ∃ L, Hid (runsM a b c d n f = L) := ⟨_, rfl⟩
  rw [unhide hL] at hR ⊢
  replace P := hide P
  go_enter Try.func70, Try.ntmps70
  go_upto_region 2 with fail
  have R1 := hide (al2_0 w (.cells #[.int .i64 a, .int .i64 b, .int .i64 c, .int .i64 d, .slice ao n cp] 44) (.cells #[] 57))
  have HB := hide (al2_below w (.cells #[.int .i64 a, .int .i64 b, .int .i64 c, .int .i64 d, .slice ao n cp] 44) (.cells #[] 57))
  have O := hide (show ((w.alloc (.cells #[.int .i64 a, .int .i64 b, .int .i64 c, .int .i64 d, .slice ao n cp] 44)).alloc (.cells #[] 57)).ownsRow (w.heap.size + 1) 57 4 (.slice (some ⟨w.heap.size + 1, 0, none⟩) 0 0) 0 [] by
    have h := World.ownsRow_lit (base := w.heap.size + 1) (e := 57) (size := 4) (w.alloc (.cells #[.int .i64 a, .int .i64 b, .int .i64 c, .int .i64 d, .slice ao n cp] 44)) #[] 0 (by rw [al1_size]; exact Nat.le_refl _) (by decide) rfl
    rw [al1_size] at h
    exact h)
  obtain ⟨b3, hb3⟩ : ∃ b, Hid (b = w.heap.size + 1) := ⟨_, rfl⟩
  obtain ⟨b1, hb1'⟩ : ∃ b, Hid (b = w.heap.size) := ⟨_, rfl⟩
  rw [← unhide hb3] at O
  rw [← unhide hb1'] at R1
  rw [← unhide hb3, ← unhide hb1']
  generalize (w.alloc (.cells #[.int .i64 a, .int .i64 b, .int .i64 c, .int .i64 d, .slice ao n cp] 44)).alloc (.cells #[] 57) = W at R1 HB O ⊢
  have lb : Hid (w.heap.size ≤ b3 ∧ b1 < b3) := by unfold Hid; rw [unhide hb3, unhide hb1']; omega
  obtain ⟨q0, q1, q2, q3, q4⟩ := row5m (unhide R1)
  have EM1 := hide (unhide EM W (fun i hi => (unhide P i hi).next (unhide HB)))
  clear EM
  go_wp2_with fail
  go_fit (unhide EM1)
  rintro r w1 ⟨rfl, hb⟩
  replace R1 := hide (row_next hb (unhide R1))
  replace O := hide (own_below (unhide O) hb)
  replace HB := hide (below_two (unhide HB) hb)
  clear hb q0 q1 q2 q3 q4 EM1
  cases mo with
  | false =>
    have hL0 : Hid (L = []) := by unfold Hid; rw [unhide hR]; simp
    go_wp2_with fail
    go_ret
    rw [unhide hL0]
    exact ⟨_, rfl, own_low (unhide O) (unhide lb).1, unhide HB⟩
  | true =>
  have hbx' := unhide hbx (by trivial)
  obtain ⟨W0, hW0⟩ : ∃ W0, W0 = wideN a c := ⟨_, rfl⟩
  obtain ⟨H0, hH0⟩ : ∃ H0, H0 = wideN b d := ⟨_, rfl⟩
  have hWi : (W0 : Int) = c - a := by rw [hW0]; unfold wideN; omega
  have hHi : (H0 : Int) = d - b := by rw [hH0]; unfold wideN; omega
  have hL1 : Hid (L = runsN a b W0 f H0) := by
    unfold Hid; rw [unhide hR, hW0, hH0]; simp [runsL]
  have hWl : W0 ≤ 60 := by omega
  have hHl : H0 ≤ 60 := by omega
  clear hR hW0 hH0 hbx hL
  obtain ⟨q0, q1, q2, q3, q4⟩ := row5m (unhide R1)
  go_upto_region 5 with fail
  clear q0 q1 q2 q3 q4
  have O2 : Hid (w1.ownsRow b3 57 4 (.slice (some ⟨b3, 0, none⟩) 0 0) ([] : List B4).length (rsV [])) := unhide O
  clear O
  go_loopw [3, 4] (fun v y u => ∃ (j : Nat) (pp : Option Addr) (cq : Nat), j ≤ H0 ∧ y = .int .i64 (b + (j : Int)) ∧ v = .slice pp (runsN a b W0 f j).length cq ∧ Hid (u.ownsRow b3 57 4 (.slice pp (runsN a b W0 f j).length cq) (runsN a b W0 f j).length (rsV (runsN a b W0 f j))) ∧ Hid (u.heap[b1]? = some (.cells #[.int .i64 a, .int .i64 b, .int .i64 c, .int .i64 d, .slice ao n cp] 44 (0, 0))) ∧ Hid (Below w.heap.size w u)) (fun _ y _ => (d - intOf y).toNat)
  case atStart => exact ⟨0, _, _, Nat.zero_le _, by simp, rfl, O2, R1, HB⟩
  case round =>
    clear O2 R1 HB
    obtain ⟨j, pp, cq, hj, rfl, rfl, O, R1, HB⟩ := hrel
    obtain ⟨q0, q1, q2, q3, q4⟩ := row5m (unhide R1)
    by_cases hlt : j < H0
    · have hji : b + (j : Int) < d := by omega
      have wj : IntKind.i64.wrap (b + (j : Int) + 1) = b + (j : Int) + 1 := IntWalk.i64_in _ (by omega)
      obtain ⟨gg, hgg⟩ : ∃ gg : Nat → Int, gg = fun i => f (j * W0 + i) := ⟨_, rfl⟩
      have hnx : Hid (runsN a b W0 f (j + 1) = runsN a b W0 f j ++ (rowR gg W0 0).map (runOf a (b + (j : Int)))) := by rw [hgg]; rfl
      have hat : Hid (∀ t : Nat, t < W0 → atI a b c d f (a + (t : Int)) (b + (j : Int)) = gg t) := fun t ht => by rw [hgg]; exact at_row hWi hHi hlt ht
      have hlen : Hid ((runsN a b W0 f (j + 1)).length ≤ 3600) := by
        have := runsN_len a b W0 f (j + 1)
        have : W0 * (j + 1) ≤ 60 * 60 := Nat.mul_le_mul hWl (by omega)
        unfold Hid; omega
      obtain ⟨NX, hNX⟩ : ∃ NX, Hid (NX = runsN a b W0 f (j + 1)) := ⟨_, rfl⟩
      rw [← unhide hNX] at hnx hlen
      clear hgg
      go_upto_region 8 with fail
      clear q0 q1 q2 q3 q4
      go_loopw [3, 5] (fun v x u => ∃ (t : Nat) (M : List B4) (pp : Option Addr) (cq : Nat), t ≤ W0 ∧ x = .int .i64 (a + (t : Int)) ∧ v = .slice pp M.length cq ∧ Hid (NX = M ++ (rowR gg W0 t).map (runOf a (b + (j : Int)))) ∧ Hid (u.ownsRow b3 57 4 (.slice pp M.length cq) M.length (rsV M)) ∧ Hid (u.heap[b1]? = some (.cells #[.int .i64 a, .int .i64 b, .int .i64 c, .int .i64 d, .slice ao n cp] 44 (0, 0))) ∧ Hid (Below w.heap.size w u)) (fun _ x _ => (c - intOf x).toNat)
      case atStart => exact ⟨0, _, pp, cq, Nat.zero_le _, by simp, rfl, hnx, O, R1, HB⟩
      case round =>
        clear O R1 HB hnx
        obtain ⟨t, M, pp, cq, ht, rfl, rfl, hM, O, R1, HB⟩ := hrel
        obtain ⟨q0, q1, q2, q3, q4⟩ := row5m (unhide R1)
        by_cases hlt' : t < W0
        · have hti : a + (t : Int) < c := by omega
          have wt : IntKind.i64.wrap (a + (t : Int) + 1) = a + (t : Int) + 1 := IntWalk.i64_in _ (by omega)
          have EL1 := hide (unhide EL (by trivial) (a + (t : Int)) (b + (j : Int)) wr (fun i hi => (unhide P i hi).next (unhide HB)))
          rw [unhide hat t hlt'] at EL1
          go_wp2_with fail
          go_fit (unhide EL1)
          rintro r w2 ⟨rfl, hb⟩
          replace R1 := hide (row_next hb (unhide R1))
          replace O := hide (own_below (unhide O) hb)
          replace HB := hide (below_two (unhide HB) hb)
          clear hb q0 q1 q2 q3 q4 EL1
          by_cases hz : gg t = 0
          · have hM2 : Hid (NX = M ++ (rowR gg W0 (t + 1)).map (runOf a (b + (j : Int)))) := by unfold Hid; rw [← rowR_zero hlt' hz]; exact unhide hM
            have hzb : (gg t == 0) = true := beq_iff_eq.2 hz
            obtain ⟨z, hzz⟩ : ∃ z, z = gg t := ⟨_, rfl⟩
            rw [← hzz] at hz hzb ⊢
            subst hz
            go_wp2_with fail
            go_roundw
            case rel => exact ⟨t + 1, M, pp, cq, by omega, congrArg (Value.int .i64) (by push_cast; omega), rfl, hM2, O, R1, HB⟩
            case measure => simp [intOf]; omega
          · have hzb : (gg t == 0) = false := beq_eq_false_iff_ne.2 hz
            obtain ⟨z, hzz⟩ : ∃ z, Hid (gg t = z) := ⟨_, rfl⟩
            rw [unhide hzz] at hz hzb ⊢
            go_upto_region 13 with fail
            go_loopw [7] (fun x u => ∃ (e : Nat), t < e ∧ e ≤ W0 ∧ x = .int .i64 (a + (e : Int)) ∧ Hid (∀ i, t ≤ i → i < e → gg i = z) ∧ Hid (u.ownsRow b3 57 4 (.slice pp M.length cq) M.length (rsV M)) ∧ Hid (u.heap[b1]? = some (.cells #[.int .i64 a, .int .i64 b, .int .i64 c, .int .i64 d, .slice ao n cp] 44 (0, 0))) ∧ Hid (Below w.heap.size w u)) (fun x _ => (c - intOf x).toNat)
            case atStart => exact ⟨t + 1, by omega, by omega, congrArg (Value.int .i64) (by push_cast; omega), fun i h1 h2 => by rw [show i = t by omega]; exact unhide hzz, O, R1, HB⟩
            case round =>
              clear O R1 HB
              obtain ⟨e, he1, he2, rfl, hE, O, R1, HB⟩ := hrel
              obtain ⟨q0, q1, q2, q3, q4⟩ := row5m (unhide R1)
              by_cases hlt2 : e < W0
              · have hei : a + (e : Int) < c := by omega
                have we : IntKind.i64.wrap (a + (e : Int) + 1) = a + (e : Int) + 1 := IntWalk.i64_in _ (by omega)
                have EL2 := hide (unhide EL (by trivial) (a + (e : Int)) (b + (j : Int)) wr (fun i hi => (unhide P i hi).next (unhide HB)))
                rw [unhide hat e hlt2] at EL2
                by_cases hgz : gg e = z
                · have hgb : (gg e == z) = true := beq_iff_eq.2 hgz
                  have hE2 : Hid (∀ i, t ≤ i → i < e + 1 → gg i = z) := fun i h1 h2 => by
                    by_cases hie : i = e
                    · rw [hie]; exact hgz
                    · exact unhide hE i h1 (by omega)
                  replace hgz := hide hgz
                  go_wp2_with fail
                  go_fit (unhide EL2)
                  rintro r w3 ⟨rfl, hb⟩
                  replace R1 := hide (row_next hb (unhide R1))
                  replace O := hide (own_below (unhide O) hb)
                  replace HB := hide (below_two (unhide HB) hb)
                  clear hb q0 q1 q2 q3 q4 EL2
                  go_wp2_with fail
                  go_roundw
                  case rel => exact ⟨e + 1, by omega, by omega, congrArg (Value.int .i64) (by push_cast; omega), hE2, O, R1, HB⟩
                  case measure => simp [intOf]; omega
                · have hgb : (gg e == z) = false := beq_eq_false_iff_ne.2 hgz
                  have hMM : Hid (NX = (M ++ [(⟨b + (j : Int), a + (t : Int), a + (e : Int), z⟩ : B4)]) ++ (rowR gg W0 e).map (runOf a (b + (j : Int)))) := by
                    unfold Hid; rw [unhide hM, rowR_run he1 he2 hz (unhide hE) (.inr hgz)]; simp [runOf]
                  replace hgz := hide hgz
                  go_wp2_with fail
                  go_fit (unhide EL2)
                  rintro r w3 ⟨rfl, hb⟩
                  replace R1 := hide (row_next hb (unhide R1))
                  replace O := hide (own_below (unhide O) hb)
                  replace HB := hide (below_two (unhide HB) hb)
                  clear hb q0 q1 q2 q3 q4 EL2
                  have hlm : Hid (M.length ≤ 1048576) := by
                    have h1 := unhide hlen
                    rw [unhide hMM] at h1
                    simp only [List.length_append, List.length_cons, List.length_nil] at h1
                    unfold Hid; omega
                  have we0 : IntKind.i64.wrap (a + (e : Int) - 1) = a + (e : Int) - 1 := IntWalk.i64_in _ (by omega)
                  have we2 : IntKind.i64.wrap (a + (e : Int)) = a + (e : Int) := IntWalk.i64_in _ (by omega)
                  have we1 : IntKind.i64.wrap (a + (e : Int) - 1 + 1) = a + (e : Int) := by rw [Int.sub_add_cancel]; exact we2
                  have hsz := hide (show b3 ≤ w3.heap.size by have h1 := heap_lt (unhide R1); rw [unhide hb1'] at h1; rw [unhide hb3]; omega)
                  go_wp2_with (at_builtin; go_must (refine wpList_append_rn w3 rfl _ _ 52 rfl b3 i1 (.agg #[.int .i64 0, .int .i64 0, .int .i64 0, .int .i64 0]) Try.underlying52 hi1 hz1 hs1 hb1 rfl _ M (by rfl) (unhide O) (b + (j : Int)) (a + (t : Int)) (a + (e : Int)) z 1 rfl (unhide hlm) (unhide hsz) ?_); intro v4 w4 hown4 hb4)
                  have R4 := hide ((hb4.block b1 (unhide lb).2).trans (unhide R1))
                  have B4 := hide ((unhide HB).trans (hb4.mono (unhide lb).1))
                  obtain ⟨pp4, cq4, rfl⟩ := own_form hown4
                  replace hown4 := hide hown4
                  clear hb4
                  go_wp2_with fail
                  go_roundw
                  case rel => exact ⟨e, _, pp4, cq4, he2, congrArg (Value.int .i64) (by omega), rfl, hMM, hown4, R4, B4⟩
                  case measure => simp [intOf]; omega
              · have hee : e = W0 := by omega
                have hei : ¬ a + (e : Int) < c := by omega
                have hMM : Hid (NX = (M ++ [(⟨b + (j : Int), a + (t : Int), a + (e : Int), z⟩ : B4)]) ++ (rowR gg W0 e).map (runOf a (b + (j : Int)))) := by
                  unfold Hid; rw [unhide hM, rowR_run he1 he2 hz (unhide hE) (.inl hee)]; simp [runOf]
                clear hee
                have hlm : Hid (M.length ≤ 1048576) := by
                  have h1 := unhide hlen
                  rw [unhide hMM] at h1
                  simp only [List.length_append, List.length_cons, List.length_nil] at h1
                  unfold Hid; omega
                have we0 : IntKind.i64.wrap (a + (e : Int) - 1) = a + (e : Int) - 1 := IntWalk.i64_in _ (by omega)
                have we2 : IntKind.i64.wrap (a + (e : Int)) = a + (e : Int) := IntWalk.i64_in _ (by omega)
                have we1 : IntKind.i64.wrap (a + (e : Int) - 1 + 1) = a + (e : Int) := by rw [Int.sub_add_cancel]; exact we2
                have hsz := hide (show b3 ≤ wr.heap.size by have h1 := heap_lt (unhide R1); rw [unhide hb1'] at h1; rw [unhide hb3]; omega)
                go_wp2_with (at_builtin; go_must (refine wpList_append_rn wr rfl _ _ 52 rfl b3 i1 (.agg #[.int .i64 0, .int .i64 0, .int .i64 0, .int .i64 0]) Try.underlying52 hi1 hz1 hs1 hb1 rfl _ M (by rfl) (unhide O) (b + (j : Int)) (a + (t : Int)) (a + (e : Int)) z 1 rfl (unhide hlm) (unhide hsz) ?_); intro v4 w4 hown4 hb4)
                have R4 := hide ((hb4.block b1 (unhide lb).2).trans (unhide R1))
                have B4 := hide ((unhide HB).trans (hb4.mono (unhide lb).1))
                obtain ⟨pp4, cq4, rfl⟩ := own_form hown4
                replace hown4 := hide hown4
                clear hb4
                go_wp2_with fail
                go_roundw
                case rel => exact ⟨e, _, pp4, cq4, he2, congrArg (Value.int .i64) (by omega), rfl, hMM, hown4, R4, B4⟩
                case measure => simp [intOf]; omega
        · have hte : t = W0 := by omega
          subst hte
          have hti : ¬ a + (t : Int) < c := by omega
          have hM2 : Hid (M = runsN a b t f (j + 1)) := by
            unfold Hid; rw [← unhide hNX, unhide hM, rowR_end (Nat.le_refl _)]; simp
          go_wp2_with fail
          go_roundw
          case rel => exact ⟨j + 1, pp, cq, by omega, congrArg (Value.int .i64) (by push_cast; omega), by rw [← unhide hM2], by rw [← unhide hM2]; exact O, R1, HB⟩
          case measure => simp [intOf]; omega
    · have hje : j = H0 := by omega
      subst hje
      have hji : ¬ b + (j : Int) < d := by omega
      go_wp2_with fail
      go_ret
      rw [unhide hL1]
      exact ⟨_, rfl, own_low (unhide O) (unhide lb).1, unhide HB⟩
end Go.Proofs.Ytmomgbnhildpdab

/-
  Rows of boxes that are made and written one by one.
-/
namespace Go.Proofs.Ytmomgbnhildpdab
open Go.RowKit

theorem infoBox : (Try.prog.info? 42).map (fun i => (i.zero, i.size, i.bytes)) = some (some (.agg #[.int .i64 0, .int .i64 0, .int .i64 0, .int .i64 0]), 4, 32) := by kernel_rfl

/-- The first k boxes of a row are those of G. -/
def BxAt (xs : List Value) (G : Nat → B4) (k : Nat) : Prop := ∀ j, j < k → xs[j * 4]? = some (.int .i64 (G j).x0) ∧ xs[j * 4 + 1]? = some (.int .i64 (G j).y0) ∧ xs[j * 4 + 2]? = some (.int .i64 (G j).x1) ∧ xs[j * 4 + 3]? = some (.int .i64 (G j).y1)
theorem BxAt.step {xs : List Value} {G : Nat → B4} {k : Nat} (h : BxAt xs G k) (hk : k * 4 + 4 ≤ xs.length) :
    BxAt ((((xs.set (k * 4) (.int .i64 (G k).x0)).set (k * 4 + 1) (.int .i64 (G k).y0)).set (k * 4 + 2) (.int .i64 (G k).x1)).set (k * 4 + 3) (.int .i64 (G k).y1)) G (k + 1) := by
  intro j hj
  by_cases hjk : j = k
  · subst hjk
    refine ⟨?_, ?_, ?_, ?_⟩ <;> simp [List.getElem?_set] <;> omega
  · obtain ⟨h0, h1, h2, h3⟩ := h j (by omega)
    refine ⟨?_, ?_, ?_, ?_⟩
    · rw [List.getElem?_set_ne (by omega), List.getElem?_set_ne (by omega), List.getElem?_set_ne (by omega), List.getElem?_set_ne (by omega)]; exact h0
    · rw [List.getElem?_set_ne (by omega), List.getElem?_set_ne (by omega), List.getElem?_set_ne (by omega), List.getElem?_set_ne (by omega)]; exact h1
    · rw [List.getElem?_set_ne (by omega), List.getElem?_set_ne (by omega), List.getElem?_set_ne (by omega), List.getElem?_set_ne (by omega)]; exact h2
    · rw [List.getElem?_set_ne (by omega), List.getElem?_set_ne (by omega), List.getElem?_set_ne (by omega), List.getElem?_set_ne (by omega)]; exact h3

theorem own_cell4 {w : World} {base t g n cap k : Nat} {xs : List Value} (h : w.ownsRow base t 4 (.slice (some ⟨g, 0, none⟩) n cap) n xs) (hk : k < n) :
    ∃ v0 v1 v2 v3, w.cell? ⟨g, k * 4, none⟩ = some v0 ∧ w.cell? ⟨g, k * 4 + 1, none⟩ = some v1 ∧ w.cell? ⟨g, k * 4 + 2, none⟩ = some v2 ∧ w.cell? ⟨g, k * 4 + 3, none⟩ = some v3 := by
  have hl := h.1
  refine ⟨xs[k * 4]'(by omega), xs[k * 4 + 1]'(by omega), xs[k * 4 + 2]'(by omega), xs[k * 4 + 3]'(by omega), ?_, ?_, ?_, ?_⟩
  all_goals rw [h.cellAt _ (by omega)]; exact List.getElem?_eq_getElem _
theorem own_put4 {w : World} {base t g n cap k : Nat} {xs : List Value} (h : w.ownsRow base t 4 (.slice (some ⟨g, 0, none⟩) n cap) n xs) (x y z u : Value) :
    ((((w.setCell ⟨g, k * 4, none⟩ x).setCell ⟨g, k * 4 + 1, none⟩ y).setCell ⟨g, k * 4 + 2, none⟩ z).setCell ⟨g, k * 4 + 3, none⟩ u).ownsRow base t 4 (.slice (some ⟨g, 0, none⟩) n cap) n ((((xs.set (k * 4) x).set (k * 4 + 1) y).set (k * 4 + 2) z).set (k * 4 + 3) u) :=
  ((((h.stored _ _).1.stored _ _).1.stored _ _).1.stored _ _).1
theorem below_at4 {B : Nat} {a w : World} (h : Below B a w) {b : Nat} (hb : B ≤ b) (o0 o1 o2 o3 : Nat) (x y z u : Value) : Below B a ((((w.setCell ⟨b, o0, none⟩ x).setCell ⟨b, o1, none⟩ y).setCell ⟨b, o2, none⟩ z).setCell ⟨b, o3, none⟩ u) :=
  (((h.setCell (p := ⟨b, o0, none⟩) hb x).setCell (p := ⟨b, o1, none⟩) hb y).setCell (p := ⟨b, o2, none⟩) hb z).setCell (p := ⟨b, o3, none⟩) hb u
theorem own_boxes {w : World} {base t g n cap : Nat} {xs : List Value} {G : Nat → B4} (h : w.ownsRow base t 4 (.slice (some ⟨g, 0, none⟩) n cap) n xs) (hx : BxAt xs G n) : ∀ i, i < n → HasBox w g i (G i) := by
  intro i hi
  obtain ⟨h0, h1, h2, h3⟩ := hx i hi
  refine ⟨?_, ?_, ?_, ?_⟩
  · rw [h.cellAt _ (by omega)]; exact h0
  · rw [h.cellAt _ (by omega)]; exact h1
  · rw [h.cellAt _ (by omega)]; exact h2
  · rw [h.cellAt _ (by omega)]; exact h3
end Go.Proofs.Ytmomgbnhildpdab

/-
  The laws' own words on lists of runs: handed over, measured, held against each other, marked and held.
-/
namespace Go.Proofs.Ytmomgbnhildpdab
open Go.RowKit
set_option linter.unusedVariables false

theorem own_bxa {w : World} {base t n cap : Nat} {a : Option Addr} {xs : List Value} {G : Nat → B4} (h : w.ownsRow base t 4 (.slice a n cap) n xs) (hx : BxAt xs G n) : ∀ i, i < n → RnAt w a i (G i) := by
  intro i hi
  obtain ⟨g, c, e, _, _⟩ := own_at h (by omega)
  cases e
  obtain ⟨h0, h1, h2, h3⟩ := hx i hi
  refine ⟨g, 0, rfl, ?_, ?_, ?_, ?_⟩
  · rw [Nat.zero_add, h.cellAt _ (by omega)]; exact h0
  · rw [Nat.zero_add, h.cellAt _ (by omega)]; exact h1
  · rw [Nat.zero_add, h.cellAt _ (by omega)]; exact h2
  · rw [Nat.zero_add, h.cellAt _ (by omega)]; exact h3

end Go.Proofs.Ytmomgbnhildpdab

/-
  The specification's MaskBy. (By maskby.py.)
-/
namespace Go.Proofs.Ytmomgbnhildpdab
open Go.RowKit
set_option linter.unusedVariables false

/-- A mask of its own and whether there is one. -/
def ByRes (w : World) (r : Ending) (w' : World) (ok : Bool) (a b c d : Int) (N : Nat) (f : Nat → Int) : Prop :=
  ∃ p cp, r = .returned (.tuple #[.agg #[.int .i64 (boxV ok a), .int .i64 (boxV ok b), .int .i64 (boxV ok c), .int .i64 (boxV ok d), .slice p (boxK ok N) cp], .bool ok]) ∧ IntsV w' w.heap.size (.slice p (boxK ok N) cp) (boxK ok N) f ∧ Below w.heap.size w w'
theorem by_none {w w' : World} {a b c d : Int} {N : Nat} {f : Nat → Int} (hb : Below w.heap.size w w') : ByRes w (.returned (.tuple #[.agg #[.int .i64 0, .int .i64 0, .int .i64 0, .int .i64 0, .slice none 0 0], .bool false])) w' false a b c d N f :=
  ⟨none, 0, rfl, ⟨[], World.ownsRow_nil _ _ _ _, fun j hj => absurd hj (by simp [boxK])⟩, hb⟩
theorem ix_set {xs : List Value} {f : Nat → Int} {n j : Nat} {v : Int} (h : IxAt xs f n) (hj : j < xs.length) : IxAt (xs.set j (.int .i64 v)) (fun i => if i = j then v else f i) n := by
  intro i hi
  by_cases e : i = j
  · subst e; simp [hj]
  · rw [List.getElem?_set_ne (fun h => e h.symm)]; simp only [if_neg e]; exact h i hi
theorem ix_congr {xs : List Value} {f f' : Nat → Int} {n : Nat} (h : IxAt xs f n) (e : ∀ i, i < n → f i = f' i) : IxAt xs f' n := fun i hi => by rw [← e i hi]; exact h i hi
/-- While it is painted. -/
structure ByS (w u : World) (b2 b4 b6 g : Nat) (a b c d : Int) (N : Nat) (f : Nat → Int) : Prop where
  box : u.heap[b2]? = some (.cells #[.int .i64 a, .int .i64 b, .int .i64 c, .int .i64 d] 42 (0, 0))
  zero : u.heap[b4]? = some (.cells #[.int .i64 0, .int .i64 0, .int .i64 0, .int .i64 0, .slice none 0 0] 44 (0, 0))
  row : u.heap[b6]? = some (.cells #[.int .i64 a, .int .i64 b, .int .i64 c, .int .i64 d, .slice (some ⟨g, 0, none⟩) N N] 44 (0, 0))
  own : ∃ xs, u.ownsRow g 3 1 (.slice (some ⟨g, 0, none⟩) N N) N xs ∧ IxAt xs f N
  bel : Below w.heap.size w u
theorem ByS.next {w u u' : World} {b2 b4 b6 g : Nat} {a b c d : Int} {N : Nat} {f : Nat → Int} (h : ByS w u b2 b4 b6 g a b c d N f) (hb : Below u.heap.size u u') : ByS w u' b2 b4 b6 g a b c d N f :=
  ⟨row_next hb h.box, row_next hb h.zero, row_next hb h.row, let ⟨xs, h1, h2⟩ := h.own; ⟨xs, own_below h1 hb, h2⟩, below_two h.bel hb⟩
theorem ByS.put {w u : World} {b2 b4 b6 g : Nat} {a b c d : Int} {N : Nat} {f : Nat → Int} (h : ByS w u b2 b4 b6 g a b c d N f) (hw : w.heap.size ≤ g) (h2 : b2 < g) (h4 : b4 < g) (h6 : b6 < g) {j : Nat} (hj : j < N) (v : Int) : ByS w (u.setCell ⟨g, j, none⟩ (.int .i64 v)) b2 b4 b6 g a b c d N (fun i => if i = j then v else f i) := by
  obtain ⟨xs, o, x⟩ := h.own
  exact ⟨setc_other (by omega) h.box, setc_other (by omega) h.zero, setc_other (by omega) h.row, ⟨_, (o.stored j _).1, ix_set x (by have := o.1; omega)⟩, h.bel.setCell (p := ⟨g, j, none⟩) hw _⟩
theorem ByS.congr {w u : World} {b2 b4 b6 g : Nat} {a b c d : Int} {N : Nat} {f f' : Nat → Int} (h : ByS w u b2 b4 b6 g a b c d N f) (e : ∀ i, i < N → f i = f' i) : ByS w u b2 b4 b6 g a b c d N f' :=
  ⟨h.box, h.zero, h.row, let ⟨xs, h1, h2⟩ := h.own; ⟨xs, h1, ix_congr h2 e⟩, h.bel⟩
theorem ByS.ints {w u : World} {b2 b4 b6 g : Nat} {a b c d : Int} {N : Nat} {f : Nat → Int} (h : ByS w u b2 b4 b6 g a b c d N f) : ∀ i, i < N → IntAt u (some ⟨g, 0, none⟩) i (f i) := let ⟨_, h1, h2⟩ := h.own; own_ix h1 h2
theorem ByS.cell {w u : World} {b2 b4 b6 g : Nat} {a b c d : Int} {N : Nat} {f : Nat → Int} (h : ByS w u b2 b4 b6 g a b c d N f) {j : Nat} (hj : j < N) : u.cell? ⟨g, j, none⟩ = some (.int .i64 (f j)) ∧ u.frozen? ⟨g, j, none⟩ = false := by
  obtain ⟨xs, o, x⟩ := h.own
  exact ⟨by rw [o.cellAt _ (by omega)]; exact x j hj, o.frozenAt j⟩
theorem made_zero (N : Nat) : IxAt (madeCells (Value.int .i64 0).cells (N * 1)).toList (fun _ => 0) N := by
  intro j hj
  simp [madeCells, Value.cells, hj, Nat.mod_one]
/-- A run of the box, painted as far as x. -/
theorem run_bd {a b c d : Int} {r : B4} (hb : boxInB a b c d = true) (hr : inRunB a b c d r = true) : (a ≤ r.y0 ∧ r.y0 < r.x1 ∧ r.x1 ≤ c ∧ b ≤ r.x0 ∧ r.x0 < d) ∧ 0 ≤ placeI a b c r.y0 r.x0 ∧ placeI a b c r.y0 r.x0 + (r.x1 - r.y0) ≤ ((sqN a b c d : Nat) : Int) ∧ ∀ x, placeI a b c x r.x0 = placeI a b c r.y0 r.x0 + (x - r.y0) := by
  unfold inRunB at hr
  rw [Bool.and_eq_true, Bool.and_eq_true, inB_true, inB_true, inB_true] at hr
  obtain ⟨p1, p2, _⟩ := boxIn_iff.1 hb
  have hin : ∀ x, a ≤ x → x < c → inBoxB a b c d x r.x0 = true := fun x h1 h2 => by
    unfold inBoxB
    rw [decide_eq_true (by omega), decide_eq_true (by omega), decide_eq_true (by omega), decide_eq_true (by omega)]; rfl
  have q1 := place_bd hb (hin r.y0 (by omega) (by omega))
  have q2 := place_bd hb (hin (r.x1 - 1) (by omega) (by omega))
  have q3 : ∀ x, placeI a b c x r.x0 = placeI a b c r.y0 r.x0 + (x - r.y0) := fun x => by unfold placeI; omega
  have q4 := q3 (r.x1 - 1)
  exact ⟨by omega, q1.1, by omega, q3⟩
attribute [local go_sem ↓] eqZero_yes eqZero_no in
set_option maxHeartbeats 16000000 in
set_option maxRecDepth 100000 in
theorem specMaskBy_any (a b c d : Int) (G : Nat → B4) (ao : Option Addr) (m cap : Nat) (hm : m ≤ 1048576) (w : World) (P : ∀ i, i < m → RnAt w ao i (G i)) :
    Calls Try.prog 28 #[.agg #[.int .i64 a, .int .i64 b, .int .i64 c, .int .i64 d], .slice ao m cap] w fun r w' => ByRes w r w' (byOkB a b c d m G) a b c d (sqN a b c d) (paintN a b c G m) := by
  obtain ⟨i1, hi1, hz1, hs1, hb1⟩ := info_parts Try.info3
  have hyes : Hid (ByOk a b c d m G → byOkB a b c d m G = true) := fun h => byOk_iff.2 h
  have hno : Hid (¬ ByOk a b c d m G → byOkB a b c d m G = false) := fun h => byOk_no h
  generalize byOkB a b c d m G = X at hyes hno ⊢
  obtain ⟨N, hN⟩ : ∃ N, Hid (N = sqN a b c d) := ⟨_, rfl⟩
  rw [← unhide hN]
  have EB := hide (specL11Box_any a b c d)
  replace P := hide P
  by_cases hz : a = 0 ∧ b = 0 ∧ c = 0 ∧ d = 0
  · by_cases hm0 : m = 0
    · obtain rfl := unhide hyes (.inl ⟨hz.1, hz.2.1, hz.2.2.1, hz.2.2.2, hm0⟩)
      obtain ⟨rfl, rfl, rfl, rfl⟩ := hz
      have hN0 : N = 0 := by rw [unhide hN]; rfl
      subst hN0
      subst hm0
      clear hyes hno EB P
      go_enter Try.func28, Try.ntmps28
      go_upto_region 2 with fail
      have R2 := hide (al3_0 w (.cells #[.int .i64 0, .int .i64 0, .int .i64 0, .int .i64 0] 42) (.cells #[.int .i64 0, .int .i64 0, .int .i64 0, .int .i64 0, .slice none 0 0] 44) (.cells #[.int .i64 0, .int .i64 0, .int .i64 0, .int .i64 0, .slice none 0 0] 44))
      have R4 := hide (al3_1 w (.cells #[.int .i64 0, .int .i64 0, .int .i64 0, .int .i64 0] 42) (.cells #[.int .i64 0, .int .i64 0, .int .i64 0, .int .i64 0, .slice none 0 0] 44) (.cells #[.int .i64 0, .int .i64 0, .int .i64 0, .int .i64 0, .slice none 0 0] 44))
      have R6 := hide (al3_2 w (.cells #[.int .i64 0, .int .i64 0, .int .i64 0, .int .i64 0] 42) (.cells #[.int .i64 0, .int .i64 0, .int .i64 0, .int .i64 0, .slice none 0 0] 44) (.cells #[.int .i64 0, .int .i64 0, .int .i64 0, .int .i64 0, .slice none 0 0] 44))
      have HB := hide (al3_below w (.cells #[.int .i64 0, .int .i64 0, .int .i64 0, .int .i64 0] 42) (.cells #[.int .i64 0, .int .i64 0, .int .i64 0, .int .i64 0, .slice none 0 0] 44) (.cells #[.int .i64 0, .int .i64 0, .int .i64 0, .int .i64 0, .slice none 0 0] 44))
      obtain ⟨b6, hb6⟩ : ∃ b, Hid (b = w.heap.size + 1 + 1) := ⟨_, rfl⟩
      obtain ⟨b4, hb4⟩ : ∃ b, Hid (b = w.heap.size + 1) := ⟨_, rfl⟩
      obtain ⟨b2, hb2⟩ : ∃ b, Hid (b = w.heap.size) := ⟨_, rfl⟩
      have lz : Hid (w.heap.size ≤ b4) := by unfold Hid; rw [unhide hb4]; omega
      have lz6 : Hid (w.heap.size ≤ b6 ∧ b2 < b4 ∧ b4 < b6) := by unfold Hid; rw [unhide hb6, unhide hb4, unhide hb2]; omega
      rw [← unhide hb6] at R6
      rw [← unhide hb4] at R4
      rw [← unhide hb2] at R2
      rw [← unhide hb6, ← unhide hb4, ← unhide hb2]
      generalize ((w.alloc (.cells #[.int .i64 0, .int .i64 0, .int .i64 0, .int .i64 0] 42)).alloc (.cells #[.int .i64 0, .int .i64 0, .int .i64 0, .int .i64 0, .slice none 0 0] 44)).alloc (.cells #[.int .i64 0, .int .i64 0, .int .i64 0, .int .i64 0, .slice none 0 0] 44) = W at R2 R4 R6 HB ⊢
      obtain ⟨q0, q1, q2, q3⟩ := row4 (unhide R2)
      obtain ⟨s0, s1, s2, s3, s4⟩ := row5m (unhide R6)
      obtain ⟨e0, e1, e2, e3, e4⟩ := row5m (unhide R4)
      obtain ⟨f0, f1, f2, f3, f4⟩ := frozen5 (unhide R4)
      go_wp2_with fail
      refine bodyPost_ret (v := .tuple #[.agg #[.int .i64 0, .int .i64 0, .int .i64 0, .int .i64 0, .slice none 0 0], .bool true]) (by simp [results, Try.results28, go_sem, e0, e1, e2, e3, e4]) rfl ?_
      exact ⟨none, 0, rfl, ⟨[], World.ownsRow_nil _ _ _ _, fun j hj => absurd hj (by simp [boxK])⟩, below_put5 (unhide HB) (unhide lz) _ _ _ _ _⟩
    · obtain rfl := unhide hno (fun h => by
        rcases h with ⟨_, _, _, _, h⟩ | ⟨h, _⟩
        · exact hm0 h
        · rw [boxIn_iff] at h; omega)
      obtain ⟨rfl, rfl, rfl, rfl⟩ := hz
      have hmb : ((m : Int) == 0) = false := beq_eq_false_iff_ne.2 (by omega)
      clear hyes hno EB P
      go_enter Try.func28, Try.ntmps28
      go_upto_region 2 with fail
      have R2 := hide (al3_0 w (.cells #[.int .i64 0, .int .i64 0, .int .i64 0, .int .i64 0] 42) (.cells #[.int .i64 0, .int .i64 0, .int .i64 0, .int .i64 0, .slice none 0 0] 44) (.cells #[.int .i64 0, .int .i64 0, .int .i64 0, .int .i64 0, .slice none 0 0] 44))
      have R4 := hide (al3_1 w (.cells #[.int .i64 0, .int .i64 0, .int .i64 0, .int .i64 0] 42) (.cells #[.int .i64 0, .int .i64 0, .int .i64 0, .int .i64 0, .slice none 0 0] 44) (.cells #[.int .i64 0, .int .i64 0, .int .i64 0, .int .i64 0, .slice none 0 0] 44))
      have R6 := hide (al3_2 w (.cells #[.int .i64 0, .int .i64 0, .int .i64 0, .int .i64 0] 42) (.cells #[.int .i64 0, .int .i64 0, .int .i64 0, .int .i64 0, .slice none 0 0] 44) (.cells #[.int .i64 0, .int .i64 0, .int .i64 0, .int .i64 0, .slice none 0 0] 44))
      have HB := hide (al3_below w (.cells #[.int .i64 0, .int .i64 0, .int .i64 0, .int .i64 0] 42) (.cells #[.int .i64 0, .int .i64 0, .int .i64 0, .int .i64 0, .slice none 0 0] 44) (.cells #[.int .i64 0, .int .i64 0, .int .i64 0, .int .i64 0, .slice none 0 0] 44))
      obtain ⟨b6, hb6⟩ : ∃ b, Hid (b = w.heap.size + 1 + 1) := ⟨_, rfl⟩
      obtain ⟨b4, hb4⟩ : ∃ b, Hid (b = w.heap.size + 1) := ⟨_, rfl⟩
      obtain ⟨b2, hb2⟩ : ∃ b, Hid (b = w.heap.size) := ⟨_, rfl⟩
      have lz : Hid (w.heap.size ≤ b4) := by unfold Hid; rw [unhide hb4]; omega
      have lz6 : Hid (w.heap.size ≤ b6 ∧ b2 < b4 ∧ b4 < b6) := by unfold Hid; rw [unhide hb6, unhide hb4, unhide hb2]; omega
      rw [← unhide hb6] at R6
      rw [← unhide hb4] at R4
      rw [← unhide hb2] at R2
      rw [← unhide hb6, ← unhide hb4, ← unhide hb2]
      generalize ((w.alloc (.cells #[.int .i64 0, .int .i64 0, .int .i64 0, .int .i64 0] 42)).alloc (.cells #[.int .i64 0, .int .i64 0, .int .i64 0, .int .i64 0, .slice none 0 0] 44)).alloc (.cells #[.int .i64 0, .int .i64 0, .int .i64 0, .int .i64 0, .slice none 0 0] 44) = W at R2 R4 R6 HB ⊢
      obtain ⟨q0, q1, q2, q3⟩ := row4 (unhide R2)
      obtain ⟨s0, s1, s2, s3, s4⟩ := row5m (unhide R6)
      obtain ⟨e0, e1, e2, e3, e4⟩ := row5m (unhide R4)
      obtain ⟨f0, f1, f2, f3, f4⟩ := frozen5 (unhide R4)
      go_wp2_with fail
      refine bodyPost_ret (v := .tuple #[.agg #[.int .i64 0, .int .i64 0, .int .i64 0, .int .i64 0, .slice none 0 0], .bool false]) (by simp [results, Try.results28, go_sem, e0, e1, e2, e3, e4]) rfl ?_
      exact by_none (below_put5 (unhide HB) (unhide lz) _ _ _ _ _)
  · go_enter Try.func28, Try.ntmps28
    go_upto_region 2 with fail
    have R2 := hide (al3_0 w (.cells #[.int .i64 a, .int .i64 b, .int .i64 c, .int .i64 d] 42) (.cells #[.int .i64 0, .int .i64 0, .int .i64 0, .int .i64 0, .slice none 0 0] 44) (.cells #[.int .i64 0, .int .i64 0, .int .i64 0, .int .i64 0, .slice none 0 0] 44))
    have R4 := hide (al3_1 w (.cells #[.int .i64 a, .int .i64 b, .int .i64 c, .int .i64 d] 42) (.cells #[.int .i64 0, .int .i64 0, .int .i64 0, .int .i64 0, .slice none 0 0] 44) (.cells #[.int .i64 0, .int .i64 0, .int .i64 0, .int .i64 0, .slice none 0 0] 44))
    have R6 := hide (al3_2 w (.cells #[.int .i64 a, .int .i64 b, .int .i64 c, .int .i64 d] 42) (.cells #[.int .i64 0, .int .i64 0, .int .i64 0, .int .i64 0, .slice none 0 0] 44) (.cells #[.int .i64 0, .int .i64 0, .int .i64 0, .int .i64 0, .slice none 0 0] 44))
    have HB := hide (al3_below w (.cells #[.int .i64 a, .int .i64 b, .int .i64 c, .int .i64 d] 42) (.cells #[.int .i64 0, .int .i64 0, .int .i64 0, .int .i64 0, .slice none 0 0] 44) (.cells #[.int .i64 0, .int .i64 0, .int .i64 0, .int .i64 0, .slice none 0 0] 44))
    obtain ⟨b6, hb6⟩ : ∃ b, Hid (b = w.heap.size + 1 + 1) := ⟨_, rfl⟩
    obtain ⟨b4, hb4⟩ : ∃ b, Hid (b = w.heap.size + 1) := ⟨_, rfl⟩
    obtain ⟨b2, hb2⟩ : ∃ b, Hid (b = w.heap.size) := ⟨_, rfl⟩
    have lz : Hid (w.heap.size ≤ b4) := by unfold Hid; rw [unhide hb4]; omega
    have lz6 : Hid (w.heap.size ≤ b6 ∧ b2 < b4 ∧ b4 < b6) := by unfold Hid; rw [unhide hb6, unhide hb4, unhide hb2]; omega
    rw [← unhide hb6] at R6
    rw [← unhide hb4] at R4
    rw [← unhide hb2] at R2
    rw [← unhide hb6, ← unhide hb4, ← unhide hb2]
    generalize ((w.alloc (.cells #[.int .i64 a, .int .i64 b, .int .i64 c, .int .i64 d] 42)).alloc (.cells #[.int .i64 0, .int .i64 0, .int .i64 0, .int .i64 0, .slice none 0 0] 44)).alloc (.cells #[.int .i64 0, .int .i64 0, .int .i64 0, .int .i64 0, .slice none 0 0] 44) = W at R2 R4 R6 HB ⊢
    obtain ⟨q0, q1, q2, q3⟩ := row4 (unhide R2)
    go_wp2_with fail
    go_fit (unhide EB _)
    rintro r w1 ⟨rfl, hb⟩
    replace R2 := hide (row_next hb (unhide R2))
    replace R4 := hide (row_next hb (unhide R4))
    replace R6 := hide (row_next hb (unhide R6))
    replace HB := hide (below_two (unhide HB) hb)
    clear hb q0 q1 q2 q3 EB
    cases hbi : boxInB a b c d with
    | false =>
      obtain rfl := unhide hno (fun h => by
        rcases h with ⟨h0, h1, h2, h3, _⟩ | ⟨h, _⟩
        · exact hz ⟨h0, h1, h2, h3⟩
        · rw [hbi] at h; cases h)
      clear hbi hyes hno
      obtain ⟨s0, s1, s2, s3, s4⟩ := row5m (unhide R6)
      obtain ⟨e0, e1, e2, e3, e4⟩ := row5m (unhide R4)
      obtain ⟨f0, f1, f2, f3, f4⟩ := frozen5 (unhide R4)
      go_wp2_with fail
      refine bodyPost_ret (v := .tuple #[.agg #[.int .i64 0, .int .i64 0, .int .i64 0, .int .i64 0, .slice none 0 0], .bool false]) (by simp [results, Try.results28, go_sem, e0, e1, e2, e3, e4]) rfl ?_
      exact by_none (below_put5 (unhide HB) (unhide lz) _ _ _ _ _)
    | true =>
    by_cases hm3 : 3600 < m
    · obtain rfl := unhide hno (fun h => by
        rcases h with ⟨h0, h1, h2, h3, _⟩ | ⟨_, h, _⟩
        · exact hz ⟨h0, h1, h2, h3⟩
        · omega)
      have hmi : (3600 : Int) < (m : Int) := by omega
      clear hbi hyes hno
      obtain ⟨s0, s1, s2, s3, s4⟩ := row5m (unhide R6)
      obtain ⟨e0, e1, e2, e3, e4⟩ := row5m (unhide R4)
      obtain ⟨f0, f1, f2, f3, f4⟩ := frozen5 (unhide R4)
      go_wp2_with fail
      refine bodyPost_ret (v := .tuple #[.agg #[.int .i64 0, .int .i64 0, .int .i64 0, .int .i64 0, .slice none 0 0], .bool false]) (by simp [results, Try.results28, go_sem, e0, e1, e2, e3, e4]) rfl ?_
      exact by_none (below_put5 (unhide HB) (unhide lz) _ _ _ _ _)
    have hmi : ¬ (3600 : Int) < (m : Int) := by omega
    have hnz : Hid (¬ (a = 0 ∧ b = 0 ∧ c = 0 ∧ d = 0)) := hz
    have hNi : Hid ((N : Int) = (c - a) * (d - b)) := by unfold Hid; rw [unhide hN]; exact sqN_int hbi
    have hNb : N ≤ 3600 ∧ 0 < N := by rw [unhide hN]; exact sqN_le hbi
    obtain ⟨x1, x2, x3, x4, x5, x6, x7, x8⟩ := boxIn_iff.1 hbi
    have v1 : IntKind.i64.wrap (c - a) = c - a := IntWalk.i64_in _ (by omega)
    have v2 : IntKind.i64.wrap (d - b) = d - b := IntWalk.i64_in _ (by omega)
    have v3 : IntKind.i64.wrap ((c - a) * (d - b)) = (N : Int) := by rw [← unhide hNi]; exact IntWalk.i64_in _ (by omega)
    have hrb := hide (fun (r : B4) hr => run_bd (r := r) hbi hr)
    rw [← unhide hN] at hrb
    have hmk : Hid (maskOkB a b c d N (paintN a b c G m) = true ↔ ∀ i, i < N → inB (paintN a b c G m i) 0 15 = true) := by
      unfold Hid; rw [maskOk_iff, mok_some (by omega)]
      exact ⟨fun h => h.2.2, fun h => ⟨hbi, unhide hN, h⟩⟩
    replace hbi := hide hbi
    clear hz
    obtain ⟨q0, q1, q2, q3⟩ := row4 (unhide R2)
    obtain ⟨s0, s1, s2, s3, s4⟩ := row5m (unhide R6)
    obtain ⟨f0, f1, f2, f3, f4⟩ := frozen5 (unhide R6)
    go_upto_region 7 with fail
    clear q0 q1 q2 q3 s0 s1 s2 s3 s4 f0 f1 f2 f3 f4
    replace R2 := hide (put4_other (b := b6) (x := .int .i64 a) (y := .int .i64 b) (z := .int .i64 c) (t := .int .i64 d) (by have := unhide lz6; omega) (unhide R2))
    replace R4 := hide (put4_other (b := b6) (x := .int .i64 a) (y := .int .i64 b) (z := .int .i64 c) (t := .int .i64 d) (by have := unhide lz6; omega) (unhide R4))
    replace R6 := hide (put5_4row (y0 := .int .i64 a) (y1 := .int .i64 b) (y2 := .int .i64 c) (y3 := .int .i64 d) (unhide R6))
    replace HB := hide (below_put4 (unhide HB) (unhide lz6).1 (.int .i64 a) (.int .i64 b) (.int .i64 c) (.int .i64 d))
    generalize (((w1.setCell ⟨b6, 0, none⟩ (.int .i64 a)).setCell ⟨b6, 1, none⟩ (.int .i64 b)).setCell ⟨b6, 2, none⟩ (.int .i64 c)).setCell ⟨b6, 3, none⟩ (.int .i64 d) = W7 at R2 R4 R6 HB ⊢
    have l6 := hide (show b6 < W7.heap.size from heap_lt (unhide R6))
    have lw := hide (show w.heap.size ≤ W7.heap.size from (unhide HB).size)
    obtain ⟨q0, q1, q2, q3⟩ := row4 (unhide R2)
    go_wp2_with (at_make; go_must (refine wpList_make_full W7 rfl _ _ 37 rfl W7.heap.size 3 i1 (.int .i64 0) 1 Try.underlying37 hi1 hz1 hs1 .i64 .i64 _ _ N (by rfl) (by rfl) (by rfl) (by rfl) (by rw [hb1]; omega) (by unfold maxLen; omega) (Nat.le_refl _) ?_); intro w8 hown8 hg8; have B8 : Below W7.heap.size W7 w8 := (Below.refl _ W7).grown hg8 (Nat.le_refl _) (by simp); obtain ⟨s0, s1, s2, s3, s4⟩ := row5m (row_next B8 (unhide R6)); obtain ⟨f0, f1, f2, f3, f4⟩ := frozen5 (row_next B8 (unhide R6)); replace hown8 := hide hown8; replace B8 := hide B8; clear hg8)
    clear q0 q1 q2 q3 s0 s1 s2 s3 s4 f0 f1 f2 f3 f4
    have BY := hide (show ByS w (w8.setCell ⟨b6, 4, none⟩ (.slice (some ⟨W7.heap.size, 0, none⟩) N N)) b2 b4 b6 W7.heap.size a b c d N (paintN a b c G 0) from
      ⟨setc_other (by have := unhide lz6; omega) (row_next (unhide B8) (unhide R2)), setc_other (by have := unhide lz6; omega) (row_next (unhide B8) (unhide R4)), set5_4 (row_next (unhide B8) (unhide R6)), ⟨_, own_setc (unhide hown8) (unhide l6), made_zero N⟩, (below_two (unhide HB) (unhide B8)).setCell (p := ⟨b6, 4, none⟩) (unhide lz6).1 _⟩)
    generalize w8.setCell ⟨b6, 4, none⟩ (.slice (some ⟨W7.heap.size, 0, none⟩) N N) = W9 at BY ⊢
    generalize W7.heap.size = g at BY l6 lw ⊢
    clear hown8 B8 R2 R4 R6 HB v1 v2 v3
    have lo := hide (show w.heap.size ≤ g ∧ b2 < g ∧ b4 < g ∧ b6 < g by have := unhide lz6; have := unhide l6; have := unhide lw; omega)
    go_loopw [7] (fun i u => ∃ k : Nat, k ≤ m ∧ i = .int .i64 k ∧ Hid (∀ j, j < k → inRunB a b c d (G j) = true) ∧ Hid (ByS w u b2 b4 b6 g a b c d N (paintN a b c G k))) (fun i _ => m - (intOf i).toNat)
    case atStart => exact ⟨0, Nat.zero_le _, rfl, fun j hj => absurd hj (by omega), BY⟩
    case round =>
      clear BY
      obtain ⟨k, hk, rfl, HK, BY⟩ := hrel
      by_cases hlt : k < m
      · have HP := (unhide P k hlt).next (unhide BY).bel
        obtain ⟨r, hr⟩ : ∃ r, Hid (G k = r) := ⟨_, rfl⟩
        rw [unhide hr] at HP
        have hpn : Hid (∀ i, paintN a b c G (k + 1) i = if hitP a b c r i then r.y1 else paintN a b c G k i) := fun i => by rw [paintN, unhide hr]
        obtain ⟨ry, rx0, rx1, rv⟩ := r
        obtain ⟨s, o, rfl, g0, g1, g2, g3⟩ := HP
        dsimp only at g0 g1 g2 g3
        have hki : (k : Int) < (m : Int) := by omega
        go_upto_region 12 with fail
        have R8 := hide (new_row wr (.cells #[.int .i64 ry, .int .i64 rx0, .int .i64 rx1, .int .i64 rv] 57))
        have hb := al1_below wr (.cells #[.int .i64 ry, .int .i64 rx0, .int .i64 rx1, .int .i64 rv] 57)
        have lg : Hid (g < wr.heap.size) := by obtain ⟨xs, o, _⟩ := (unhide BY).own; exact (o.lt g rfl).2
        replace BY := hide ((unhide BY).next hb)
        clear hb g0 g1 g2 g3
        generalize wr.alloc (.cells #[.int .i64 ry, .int .i64 rx0, .int .i64 rx1, .int .i64 rv] 57) = U at R8 BY ⊢
        generalize wr.heap.size = b8 at R8 lg ⊢
        have E1 := hide (l01In_any ry b (d - 1))
        have E2 := hide (l01In_any rx0 a (c - 1))
        have E3 := hide (l01In_any rx1 (rx0 + 1) c)
        have hir : Hid ((inB ry b (d - 1) && (inB rx0 a (c - 1) && inB rx1 (rx0 + 1) c)) = inRunB a b c d ⟨ry, rx0, rx1, rv⟩) := rfl
        have hrb1 := hide (unhide hrb ⟨ry, rx0, rx1, rv⟩)
        have nn1 : IntKind.i64.wrap (d - 1) = d - 1 := IntWalk.i64_in _ (by omega)
        have nn2 : IntKind.i64.wrap (c - 1) = c - 1 := IntWalk.i64_in _ (by omega)
        have nn3 : Hid (inB rx0 a (c - 1) = true → IntKind.i64.wrap (rx0 + 1) = rx0 + 1) := fun h => by rw [inB_true] at h; exact IntWalk.i64_in _ (by omega)
        have hbad : Hid (inRunB a b c d ⟨ry, rx0, rx1, rv⟩ = false → X = false) := fun h => unhide hno (fun h' => by
          rcases h' with ⟨h0, h1, h2, h3, _⟩ | ⟨_, _, h', _⟩
          · exact unhide hnz ⟨h0, h1, h2, h3⟩
          · have := h' k hlt; rw [unhide hr, h] at this; cases this)
        generalize inB ry b (d - 1) = t1 at E1 hir
        generalize inB rx0 a (c - 1) = t2 at E2 hir nn3
        generalize inB rx1 (rx0 + 1) c = t3 at E3 hir
        obtain ⟨q0, q1, q2, q3⟩ := row4 (unhide BY).box
        obtain ⟨p0, p1, p2, p3⟩ := row4 (unhide R8)
        go_wp2_with fail
        go_fit (unhide E1 _)
        rintro r u2 ⟨rfl, rfl⟩
        cases t1 with
        | false =>
          obtain rfl := unhide hbad (unhide hir).symm
          obtain ⟨e0, e1, e2, e3, e4⟩ := row5m (unhide BY).zero
          obtain ⟨f0, f1, f2, f3, f4⟩ := frozen5 (unhide BY).zero
          go_wp2_with fail
          refine bodyPost_ret (v := .tuple #[.agg #[.int .i64 0, .int .i64 0, .int .i64 0, .int .i64 0, .slice none 0 0], .bool false]) (by simp [results, Try.results28, go_sem, e0, e1, e2, e3, e4]) rfl ?_
          exact by_none (below_put5 (unhide BY).bel (unhide lz) _ _ _ _ _)
        | true =>
        go_wp2_with fail
        go_fit (unhide E2 _)
        rintro r u2 ⟨rfl, rfl⟩
        cases t2 with
        | false =>
          obtain rfl := unhide hbad (unhide hir).symm
          obtain ⟨e0, e1, e2, e3, e4⟩ := row5m (unhide BY).zero
          obtain ⟨f0, f1, f2, f3, f4⟩ := frozen5 (unhide BY).zero
          go_wp2_with fail
          refine bodyPost_ret (v := .tuple #[.agg #[.int .i64 0, .int .i64 0, .int .i64 0, .int .i64 0, .slice none 0 0], .bool false]) (by simp [results, Try.results28, go_sem, e0, e1, e2, e3, e4]) rfl ?_
          exact by_none (below_put5 (unhide BY).bel (unhide lz) _ _ _ _ _)
        | true =>
        have nn3' := unhide nn3 (by trivial)
        go_wp2_with fail
        go_fit (unhide E3 _)
        rintro r u2 ⟨rfl, rfl⟩
        cases t3 with
        | false =>
          obtain rfl := unhide hbad (unhide hir).symm
          obtain ⟨e0, e1, e2, e3, e4⟩ := row5m (unhide BY).zero
          obtain ⟨f0, f1, f2, f3, f4⟩ := frozen5 (unhide BY).zero
          go_wp2_with fail
          refine bodyPost_ret (v := .tuple #[.agg #[.int .i64 0, .int .i64 0, .int .i64 0, .int .i64 0, .slice none 0 0], .bool false]) (by simp [results, Try.results28, go_sem, e0, e1, e2, e3, e4]) rfl ?_
          exact by_none (below_put5 (unhide BY).bel (unhide lz) _ _ _ _ _)
        | true =>
        have hin : Hid (inRunB a b c d ⟨ry, rx0, rx1, rv⟩ = true) := (unhide hir).symm
        obtain ⟨⟨y1, y2, y3, y4, y5⟩, z1, z2, z3⟩ := unhide hrb1 (unhide hin)
        obtain ⟨P0, hP0⟩ : ∃ P0 : Nat, placeI a b c rx0 ry = (P0 : Int) := ⟨(placeI a b c rx0 ry).toNat, by omega⟩
        obtain ⟨T0, hT0⟩ : ∃ T0 : Nat, rx1 - rx0 = (T0 : Int) := ⟨(rx1 - rx0).toNat, by omega⟩
        rw [hP0, hT0] at z2
        have hPT : P0 + T0 ≤ N := by omega
        have hpl : Hid (∀ t : Nat, (ry - b) * (c - a) + (rx0 + (t : Int)) - a = ((P0 + t : Nat) : Int)) := fun t => by
          have h := z3 (rx0 + (t : Int)); rw [hP0] at h; unfold placeI at h; omega
        have hpn2 : Hid (∀ i, paintN a b c G (k + 1) i = if P0 ≤ i ∧ i < P0 + T0 then rv else paintN a b c G k i) := fun i => by
          rw [unhide hpn i]
          have e1 : hitP a b c ⟨ry, rx0, rx1, rv⟩ i ↔ P0 ≤ i ∧ i < P0 + T0 := by
            unfold hitP; dsimp only; rw [z3 rx1, hP0, hT0]; omega
          simp only [e1]
        clear z1 z2 z3 hP0 hpn hir hbad hrb1 E1 E2 E3 nn1 nn2 nn3 nn3'
        go_upto_region 15 with fail
        clear q0 q1 q2 q3 p0 p1 p2 p3
        go_loopw [9] (fun x u => ∃ t : Nat, t ≤ T0 ∧ x = .int .i64 (rx0 + (t : Int)) ∧ Hid (ByS w u b2 b4 b6 g a b c d N (fun i => if P0 ≤ i ∧ i < P0 + t then rv else paintN a b c G k i)) ∧ Hid (u.heap[b8]? = some (.cells #[.int .i64 ry, .int .i64 rx0, .int .i64 rx1, .int .i64 rv] 57 (0, 0)))) (fun x _ => (rx1 - intOf x).toNat)
        case atStart => exact ⟨0, Nat.zero_le _, by simp, hide ((unhide BY).congr (fun i _ => by rw [if_neg (by omega)])), R8⟩
        case round =>
          clear BY R8
          obtain ⟨t, ht, rfl, BY, R8⟩ := hrel
          obtain ⟨p0, p1, p2, p3⟩ := row4 (unhide R8)
          by_cases hlt2 : t < T0
          · have hxi : rx0 + (t : Int) < rx1 := by omega
            have hjn : P0 + t < N := by omega
            obtain ⟨q0, q1, q2, q3⟩ := row4 (unhide BY).box
            obtain ⟨s0, s1, s2, s3, s4⟩ := row5m (unhide BY).row
            obtain ⟨cj, fj⟩ := (unhide BY).cell hjn
            have m1 := mul_bd (A := 60) (X := 60) (a := ry - b) (x := c - a) (by omega) (by omega) (by omega) (by omega)
            have v1 : IntKind.i64.wrap (ry - b) = ry - b := IntWalk.i64_in _ (by omega)
            have v2 : IntKind.i64.wrap (c - a) = c - a := IntWalk.i64_in _ (by omega)
            have v3 : IntKind.i64.wrap ((ry - b) * (c - a)) = (ry - b) * (c - a) := IntWalk.i64_in _ (by omega)
            have v4 : IntKind.i64.wrap ((ry - b) * (c - a) + (rx0 + (t : Int))) = (ry - b) * (c - a) + (rx0 + (t : Int)) := IntWalk.i64_in _ (by omega)
            have v5 : IntKind.i64.wrap ((ry - b) * (c - a) + (rx0 + (t : Int)) - a) = ((P0 + t : Nat) : Int) := by rw [unhide hpl t]; exact IntWalk.i64_in _ (by omega)
            have wt : IntKind.i64.wrap (rx0 + (t : Int) + 1) = rx0 + (t : Int) + 1 := IntWalk.i64_in _ (by omega)
            have hB2 := hide ((unhide BY).put (unhide lo).1 (unhide lo).2.1 (unhide lo).2.2.1 (unhide lo).2.2.2 hjn rv)
            have R9 := hide (setc_other (b := g) (j := P0 + t) (v := .int .i64 rv) (by have := unhide lg; omega) (unhide R8))
            have hB3 := hide ((unhide hB2).congr (f' := fun i => if P0 ≤ i ∧ i < P0 + (t + 1) then rv else paintN a b c G k i) (fun i _ => by
              by_cases h1 : i = P0 + t
              · rw [if_pos h1, if_pos (by omega)]
              · rw [if_neg h1]
                by_cases h2 : P0 ≤ i ∧ i < P0 + t
                · rw [if_pos h2, if_pos (by omega)]
                · rw [if_neg h2, if_neg (by omega)]))
            clear hB2 m1
            obtain ⟨j, hj⟩ : ∃ j, Hid (j = P0 + t) := ⟨_, rfl⟩
            rw [← unhide hj] at cj fj v5 hB3 R9 hjn
            have hji : (j : Int) < (N : Int) := by omega
            generalize (if P0 ≤ j ∧ j < P0 + t then rv else paintN a b c G k j) = old at cj
            go_wp2_with fail
            go_roundw
            case rel => exact ⟨t + 1, by omega, congrArg (Value.int .i64) (by push_cast; omega), hB3, R9⟩
            case measure => simp [intOf]; omega
          · have hxi : ¬ rx0 + (t : Int) < rx1 := by omega
            have hte : t = T0 := by omega
            have HK2 : Hid (∀ j, j < k + 1 → inRunB a b c d (G j) = true) := fun j hj => by
              by_cases e : j = k
              · rw [e, unhide hr]; exact unhide hin
              · exact unhide HK j (by omega)
            have hB3 := hide ((unhide BY).congr (f' := paintN a b c G (k + 1)) (fun i _ => by rw [unhide hpn2 i, hte]))
            clear hte
            go_wp2_with fail
            go_roundw
            case rel => exact ⟨k + 1, by omega, by go_num, HK2, hB3⟩
            case measure => simp [intOf]; omega
      · have hke : k = m := by omega
        subst hke
        have hki : ¬ (k : Int) < (k : Int) := by omega
        have ER := hide (specRunsOf_any a b c d (paintN a b c G k) (some ⟨g, 0, none⟩) N N (by omega) wr (unhide BY).ints)
        obtain ⟨s0, s1, s2, s3, s4⟩ := row5m (unhide BY).row
        go_wp2_with fail
        go_fit (unhide ER)
        intro r w10 hres
        obtain ⟨v, rfl, hown, hb⟩ := hres
        replace BY := hide ((unhide BY).next hb)
        clear hb s0 s1 s2 s3 s4 ER
        obtain ⟨L, hL⟩ : ∃ L, Hid (runsM a b c d N (paintN a b c G k) = L) := ⟨_, rfl⟩
        rw [unhide hL] at hown
        obtain ⟨pv, cv, rfl, _, hat⟩ := own_rn hown
        clear hown
        replace hat := hide hat
        have EM := hide (specMaskOk_any a b c d (paintN a b c G k) (some ⟨g, 0, none⟩) N N (by omega) w10 (unhide BY).ints)
        have hLm : Hid (maskOkB a b c d N (paintN a b c G k) = true → L = runsL a b c d (paintN a b c G k)) := fun h => by rw [← unhide hL]; unfold runsM; rw [if_pos h]
        obtain ⟨mo, hmo⟩ : ∃ mo, Hid (maskOkB a b c d N (paintN a b c G k) = mo) := ⟨_, rfl⟩
        rw [unhide hmo] at EM hLm hmk
        obtain ⟨s0, s1, s2, s3, s4⟩ := row5m (unhide BY).row
        go_wp2_with fail
        go_fit (unhide EM)
        rintro r w11 ⟨rfl, hb⟩
        replace BY := hide ((unhide BY).next hb)
        replace hat := hide (fun i hi => (unhide hat i hi).next hb)
        clear hb s0 s1 s2 s3 s4 EM
        cases mo with
        | false =>
          obtain rfl := unhide hno (fun h => by
            rcases h with ⟨h0, h1, h2, h3, _⟩ | ⟨_, _, _, h', _⟩
            · exact unhide hnz ⟨h0, h1, h2, h3⟩
            · rw [← unhide hN] at h'; exact absurd ((unhide hmk).2 h') (by simp))
          obtain ⟨e0, e1, e2, e3, e4⟩ := row5m (unhide BY).zero
          obtain ⟨f0, f1, f2, f3, f4⟩ := frozen5 (unhide BY).zero
          go_wp2_with fail
          refine bodyPost_ret (v := .tuple #[.agg #[.int .i64 0, .int .i64 0, .int .i64 0, .int .i64 0, .slice none 0 0], .bool false]) (by simp [results, Try.results28, go_sem, e0, e1, e2, e3, e4]) rfl ?_
          exact by_none (below_put5 (unhide BY).bel (unhide lz) _ _ _ _ _)
        | true =>
        replace hLm := hide (unhide hLm (by trivial))
        by_cases hlen : L.length = k
        · have hlb : (((L.length : Nat) : Int) == (k : Int)) = true := beq_iff_eq.2 (by omega)
          go_wp2_with fail
          go_loopw [11] (fun i u => ∃ j : Nat, j ≤ k ∧ i = .int .i64 j ∧ Hid (∀ q, q < j → listB L q = G q) ∧ Hid (ByS w u b2 b4 b6 g a b c d N (paintN a b c G k)) ∧ Hid (∀ i (hi : i < L.length), RnAt u pv i L[i])) (fun i _ => k - (intOf i).toNat)
          case atStart => exact ⟨0, Nat.zero_le _, rfl, fun q hq => absurd hq (by omega), BY, hat⟩
          case round =>
            clear BY hat
            obtain ⟨j, hj, rfl, HJ, BY, hat⟩ := hrel
            by_cases hlt : j < k
            · have HP := (unhide P j hlt).next (unhide BY).bel
              have HQ := unhide hat j (by omega)
              obtain ⟨r1, hr1⟩ : ∃ r, Hid (L[j]'(by omega) = r) := ⟨L[j]'(by omega), hide rfl⟩
              obtain ⟨r2, hr2⟩ : ∃ r, Hid (G j = r) := ⟨_, rfl⟩
              have hlj : Hid (listB L j = r1) := by unfold Hid; rw [listB_get (by omega)]; exact unhide hr1
              rw [unhide hr1] at HQ
              rw [unhide hr2] at HP
              have hneq : Hid (r1 ≠ r2 → X = false) := fun h => unhide hno (fun h' => by
                rcases h' with ⟨h0, h1, h2, h3, _⟩ | ⟨_, _, _, _, _, h'⟩
                · exact unhide hnz ⟨h0, h1, h2, h3⟩
                · have := h' j hlt; rw [← unhide hLm, unhide hlj, unhide hr2] at this; exact h this)
              have heqq : Hid (r1 = r2 → ∀ q, q < j + 1 → listB L q = G q) := fun h q hq => by
                by_cases e : q = j
                · rw [e, unhide hlj, unhide hr2]; exact h
                · exact unhide HJ q (by omega)
              clear hr1 hr2 hlj
              obtain ⟨y, xa, xb, v⟩ := r1
              obtain ⟨y', xa', xb', v'⟩ := r2
              obtain ⟨s, o, rfl, g0, g1, g2, g3⟩ := HQ
              obtain ⟨s', o', rfl, h0, h1, h2, h3⟩ := HP
              dsimp only at g0 g1 g2 g3 h0 h1 h2 h3
              have hji : (j : Int) < (k : Int) := by omega
              have hjl : (j : Int) < ((L.length : Nat) : Int) := by omega
              by_cases e1 : y = y'
              · by_cases e2 : xa = xa'
                · by_cases e3 : xb = xb'
                  · by_cases e4 : v = v'
                    · subst e1 e2 e3 e4
                      have HJ2 := hide (unhide heqq rfl)
                      clear heqq hneq
                      go_upto_region 24 with fail
                      go_quiet (fail)
                      go_wp2_with fail
                      go_roundw
                      case rel => exact ⟨j + 1, by omega, by go_num, HJ2, hide ((unhide BY).next (below_drews (Below.refl _ _) _)), hide (fun i hi => (unhide hat i hi).next (below_drews (Below.refl _ _) _))⟩
                      case measure => simp [intOf]; omega
                    · obtain rfl := unhide hneq (fun h => e4 (by injection h))
                      subst e1 e2 e3
                      have d4 : (v == v') = false := beq_eq_false_iff_ne.2 e4
                      obtain ⟨e0, e1, e2, e3, e4⟩ := row5m (unhide BY).zero
                      obtain ⟨f0, f1, f2, f3, f4⟩ := frozen5 (unhide BY).zero
                      go_upto_region 24 with fail
                      go_quiet (fail)
                      go_wp2_with fail
                      refine bodyPost_ret (v := .tuple #[.agg #[.int .i64 0, .int .i64 0, .int .i64 0, .int .i64 0, .slice none 0 0], .bool false]) (by simp [results, Try.results28, go_sem, e0, e1, e2, e3, e4]) rfl ?_
                      exact by_none (below_put5 (below_drews (unhide BY).bel _) (unhide lz) _ _ _ _ _)
                  · obtain rfl := unhide hneq (fun h => e3 (by injection h))
                    subst e1 e2
                    have d3 : (xb == xb') = false := beq_eq_false_iff_ne.2 e3
                    obtain ⟨e0, e1, e2, e3, e4⟩ := row5m (unhide BY).zero
                    obtain ⟨f0, f1, f2, f3, f4⟩ := frozen5 (unhide BY).zero
                    go_upto_region 24 with fail
                    go_quiet (fail)
                    go_wp2_with fail
                    refine bodyPost_ret (v := .tuple #[.agg #[.int .i64 0, .int .i64 0, .int .i64 0, .int .i64 0, .slice none 0 0], .bool false]) (by simp [results, Try.results28, go_sem, e0, e1, e2, e3, e4]) rfl ?_
                    exact by_none (below_put5 (below_drews (unhide BY).bel _) (unhide lz) _ _ _ _ _)
                · obtain rfl := unhide hneq (fun h => e2 (by injection h))
                  subst e1
                  have d2 : (xa == xa') = false := beq_eq_false_iff_ne.2 e2
                  obtain ⟨e0, e1, e2, e3, e4⟩ := row5m (unhide BY).zero
                  obtain ⟨f0, f1, f2, f3, f4⟩ := frozen5 (unhide BY).zero
                  go_upto_region 24 with fail
                  go_quiet (fail)
                  go_wp2_with fail
                  refine bodyPost_ret (v := .tuple #[.agg #[.int .i64 0, .int .i64 0, .int .i64 0, .int .i64 0, .slice none 0 0], .bool false]) (by simp [results, Try.results28, go_sem, e0, e1, e2, e3, e4]) rfl ?_
                  exact by_none (below_put5 (below_drews (unhide BY).bel _) (unhide lz) _ _ _ _ _)
              · obtain rfl := unhide hneq (fun h => e1 (by injection h))
                have d1 : (y == y') = false := beq_eq_false_iff_ne.2 e1
                obtain ⟨e0, e1, e2, e3, e4⟩ := row5m (unhide BY).zero
                obtain ⟨f0, f1, f2, f3, f4⟩ := frozen5 (unhide BY).zero
                go_upto_region 24 with fail
                go_quiet (fail)
                go_wp2_with fail
                refine bodyPost_ret (v := .tuple #[.agg #[.int .i64 0, .int .i64 0, .int .i64 0, .int .i64 0, .slice none 0 0], .bool false]) (by simp [results, Try.results28, go_sem, e0, e1, e2, e3, e4]) rfl ?_
                exact by_none (below_put5 (below_drews (unhide BY).bel _) (unhide lz) _ _ _ _ _)
            · have hje : j = k := by omega
              subst hje
              have hji : ¬ (j : Int) < (j : Int) := by omega
              obtain rfl := unhide hyes (.inr ⟨unhide hbi, by omega, unhide HK, by rw [← unhide hN]; exact (unhide hmk).1 (by trivial), by rw [← unhide hLm]; exact hlen, fun q hq => by rw [← unhide hLm]; exact unhide HJ q hq⟩)
              obtain ⟨s0, s1, s2, s3, s4⟩ := row5m (unhide BY).row
              obtain ⟨e0, e1, e2, e3, e4⟩ := row5m (unhide BY).zero
              obtain ⟨f0, f1, f2, f3, f4⟩ := frozen5 (unhide BY).zero
              go_wp2_with fail
              refine bodyPost_ret (v := .tuple #[.agg #[.int .i64 a, .int .i64 b, .int .i64 c, .int .i64 d, .slice (some ⟨g, 0, none⟩) N N], .bool true]) (by simp [results, Try.results28, go_sem, e0, e1, e2, e3, e4]) rfl ?_
              obtain ⟨xs, ow, xx⟩ := (unhide BY).own
              exact ⟨_, _, rfl, ⟨xs, own_low (own_put5 ow (fun q hq => by have := (ow.lt q hq).1; have := unhide lo; omega) _ _ _ _ _) (unhide lo).1, xx⟩, below_put5 (unhide BY).bel (unhide lz) _ _ _ _ _⟩
        · have hlb : (((L.length : Nat) : Int) == (k : Int)) = false := beq_eq_false_iff_ne.2 (by omega)
          obtain rfl := unhide hno (fun h => by
            rcases h with ⟨h0, h1, h2, h3, _⟩ | ⟨_, _, _, _, h', _⟩
            · exact unhide hnz ⟨h0, h1, h2, h3⟩
            · rw [← unhide hLm] at h'; exact hlen h')
          obtain ⟨e0, e1, e2, e3, e4⟩ := row5m (unhide BY).zero
          obtain ⟨f0, f1, f2, f3, f4⟩ := frozen5 (unhide BY).zero
          go_wp2_with fail
          refine bodyPost_ret (v := .tuple #[.agg #[.int .i64 0, .int .i64 0, .int .i64 0, .int .i64 0, .slice none 0 0], .bool false]) (by simp [results, Try.results28, go_sem, e0, e1, e2, e3, e4]) rfl ?_
          exact by_none (below_put5 (unhide BY).bel (unhide lz) _ _ _ _ _)
end Go.Proofs.Ytmomgbnhildpdab

/-
  The program's inReach and windOfEdge; its edges begin with the one that closes the line.
-/
namespace Go.Proofs.Ytmomgbnhildpdab
open Go.RowKit
set_option linter.unusedVariables false

/-- The first k edges, each told by the point at which it ends. -/
def windB (n : Nat) (pf : Nat → Pt) (p : Pt) : Nat → Int
  | 0 => 0
  | k + 1 => windB n pf p k + windE (pf ((k + n - 1) % n)) (pf k) p
theorem windB_bd (n : Nat) (pf : Nat → Pt) (p : Pt) : ∀ k : Nat, -(k : Int) ≤ windB n pf p k ∧ windB n pf p k ≤ (k : Int)
  | 0 => by simp [windB]
  | k + 1 => by
    have := windB_bd n pf p k
    have := windE_bd (pf ((k + n - 1) % n)) (pf k) p
    simp only [windB]; push_cast; omega
theorem windB_one (n : Nat) (pf : Nat → Pt) (p : Pt) : ∀ k : Nat, k + 1 ≤ n → windB n pf p (k + 1) = windE (pf (n - 1)) (pf 0) p + windN n pf p k
  | 0, h => by
    have e : (0 + n - 1) % n = n - 1 := by rw [Nat.zero_add]; exact Nat.mod_eq_of_lt (by omega)
    simp only [windB, windN, e]; omega
  | k + 1, h => by
    have e : (k + 1 + n - 1) % n = k := by
      rw [show k + 1 + n - 1 = k + n by omega, Nat.add_mod_right]; exact Nat.mod_eq_of_lt (by omega)
    have e' : (k + 1) % n = k + 1 := Nat.mod_eq_of_lt (by omega)
    have ih := windB_one n pf p k (by omega)
    rw [windB, e, ih, windN, e']; omega
theorem windB_all (n : Nat) (pf : Nat → Pt) (p : Pt) : windB n pf p n = windN n pf p n := by
  cases n with
  | zero => rfl
  | succ m =>
    rw [windB_one (m + 1) pf p m (Nat.le_refl _), windN, Nat.mod_self]
    simp only [Nat.add_sub_cancel]; omega
theorem windE_sw (a b p : Pt) : windE a b p = if upB a b p = true then 1 else if downB a b p = true then -1 else 0 := by
  unfold windE upB downB
  simp only [Bool.and_eq_true, decide_eq_true_eq]
  split <;> split <;> omega

theorem near_more {f : Nat → Pt} {k : Nat} (h : ∀ j, j < k → nearB (f j).1 (f j).2 = true) (hk : nearB (f k).1 (f k).2 = true) : ∀ j, j < k + 1 → nearB (f j).1 (f j).2 = true := by
  intro j hj
  by_cases e : j = k
  · subst e; exact hk
  · exact h j (by omega)
theorem near_not {x y : Int} (h : x < -33554432 ∨ 33554432 < x ∨ y < -33554432 ∨ 33554432 < y) : ¬ nearB x y = true := by
  simp only [nearB, inB, Bool.and_eq_true, decide_eq_true_eq]; omega
theorem near_yes {x y : Int} (h1 : ¬ x < -33554432) (h2 : ¬ 33554432 < x) (h3 : ¬ y < -33554432) (h4 : ¬ 33554432 < y) : nearB x y = true := by
  simp only [nearB, inB, Bool.and_eq_true, decide_eq_true_eq]; omega

set_option maxHeartbeats 4000000 in
set_option maxRecDepth 100000 in
theorem implInReach_any (pf : Nat → Int × Int) (b : Option Addr) (m d : Nat) (hm : m ≤ 1048576) (w : World)
    (x : Bool) (hx : x = true ↔ ∀ i, i < m → nearB (pf i).1 (pf i).2 = true) (P : ∀ i, i < m → PtArg w b i (pf i)) :
    Calls Try.prog 141 #[.slice b m d] w fun r w' => r = .returned (.bool x) ∧ Below w.heap.size w w' := by
  replace hx := hide hx
  replace P := hide P
  go_enter Try.func141, Try.ntmps141
  go_wp2_with fail
  go_loopw [7] (fun i u => ∃ q : Nat, q ≤ m ∧ i = .int .i64 q ∧ Hid (∀ j, j < q → nearB (pf j).1 (pf j).2 = true) ∧ Below w.heap.size w u) (fun i _ => m - (intOf i).toNat)
  case atStart => exact ⟨0, Nat.zero_le _, rfl, fun j hj => absurd hj (by omega), Below.refl _ _⟩
  case round =>
    obtain ⟨q, hq, rfl, HP, hb⟩ := hrel
    by_cases hlt : q < m
    · have HZ := (unhide P q hlt).next hb
      generalize hz : pf q = z at HZ
      obtain ⟨x0, y0⟩ := z
      obtain ⟨s, o, rfl, g0, g1⟩ := HZ
      dsimp only at g0 g1
      replace hb := hide hb
      replace hz := hide hz
      have hno : Hid (¬ nearB x0 y0 = true → Ending.returned (.bool false) = .returned (.bool x)) := fun h => bool_no (unhide hx) (fun h' => by have := h' q hlt; rw [unhide hz] at this; exact h this)
      go_upto_region 4 with fail
      obtain ⟨W, hW⟩ : ∃ W, W = wr.alloc (.cells #[.int .i64 x0, .int .i64 y0] 105) := ⟨_, rfl⟩
      replace hb := hide (show Below w.heap.size w W by rw [hW]; exact below_new _ (unhide hb) (Nat.le_refl _))
      have r2 := row2 (show W.heap[wr.heap.size]? = some (.cells #[.int .i64 x0, .int .i64 y0] 105 (0, 0)) by rw [hW]; exact new_row _ _)
      rw [← hW]
      clear hW g0 g1
      obtain ⟨c0, c1⟩ := r2
      by_cases h1 : x0 < -33554432
      · go_wp2_with fail
        go_ret
        exact ⟨unhide hno (near_not (.inl h1)), unhide hb⟩
      by_cases h2 : 33554432 < x0
      · go_wp2_with fail
        go_ret
        exact ⟨unhide hno (near_not (.inr (.inl h2))), unhide hb⟩
      by_cases h3 : y0 < -33554432
      · go_wp2_with fail
        go_ret
        exact ⟨unhide hno (near_not (.inr (.inr (.inl h3)))), unhide hb⟩
      by_cases h4 : 33554432 < y0
      · go_wp2_with fail
        go_ret
        exact ⟨unhide hno (near_not (.inr (.inr (.inr h4)))), unhide hb⟩
      go_wp2_with fail
      go_roundw
      case rel => exact ⟨q + 1, by omega, by go_num, near_more (unhide HP) (by rw [unhide hz]; exact near_yes h1 h2 h3 h4), unhide hb⟩
      case measure => simp [intOf]; omega
    · have hqe : q = m := by omega
      subst hqe
      replace hb := hide hb
      go_wp2_with fail
      go_ret
      exact ⟨bool_yes (unhide hx) (unhide HP), unhide hb⟩

theorem ret_int {a b : Int} (h : a = b) : Ending.returned (.int .i64 a) = .returned (.int .i64 b) := by rw [h]

set_option maxHeartbeats 4000000 in
set_option maxRecDepth 100000 in
theorem implEdge_any (xa ya xb yb x y : Int) (ha : nearB xa ya = true) (hb : nearB xb yb = true) (hp : nearB x y = true) (w : World) :
    Calls Try.prog 142 #[.agg #[.int .i64 xa, .int .i64 ya], .agg #[.int .i64 xb, .int .i64 yb], .agg #[.int .i64 x, .int .i64 y]] w fun r w' => r = .returned (.int .i64 (windE (xa, ya) (xb, yb) (x, y))) ∧ Below w.heap.size w w' := by
  obtain ⟨ax, ay⟩ := near_bd ha
  obtain ⟨bx, byy⟩ := near_bd hb
  obtain ⟨px, py⟩ := near_bd hp
  have m1 := mul_bd (A := 67108864) (X := 67108864) (a := xb - xa) (x := y - ya) (by omega) (by omega) (by omega) (by omega)
  have m2 := mul_bd (A := 67108864) (X := 67108864) (a := x - xa) (x := yb - ya) (by omega) (by omega) (by omega) (by omega)
  have v1 : IntKind.i64.wrap (xb - xa) = xb - xa := IntWalk.i64_in _ (by omega)
  have v2 : IntKind.i64.wrap (y - ya) = y - ya := IntWalk.i64_in _ (by omega)
  have v3 : IntKind.i64.wrap (x - xa) = x - xa := IntWalk.i64_in _ (by omega)
  have v4 : IntKind.i64.wrap (yb - ya) = yb - ya := IntWalk.i64_in _ (by omega)
  have v5 : IntKind.i64.wrap ((xb - xa) * (y - ya)) = (xb - xa) * (y - ya) := IntWalk.i64_in _ (by omega)
  have v6 : IntKind.i64.wrap ((x - xa) * (yb - ya)) = (x - xa) * (yb - ya) := IntWalk.i64_in _ (by omega)
  have v7 : IntKind.i64.wrap ((xb - xa) * (y - ya) - (x - xa) * (yb - ya)) = (xb - xa) * (y - ya) - (x - xa) * (yb - ya) := IntWalk.i64_in _ (by omega)
  have hE : Hid (windE (xa, ya) (xb, yb) (x, y) = if upB (xa, ya) (xb, yb) (x, y) = true then 1 else if downB (xa, ya) (xb, yb) (x, y) = true then -1 else 0) := windE_sw _ _ _
  have hU : Hid (upB (xa, ya) (xb, yb) (x, y) = (decide (ya ≤ y) && (decide (y < yb) && decide (0 < (xb - xa) * (y - ya) - (x - xa) * (yb - ya))))) := rfl
  have hD : Hid (downB (xa, ya) (xb, yb) (x, y) = (decide (yb ≤ y) && (decide (y < ya) && decide ((xb - xa) * (y - ya) - (x - xa) * (yb - ya) < 0)))) := rfl
  generalize upB (xa, ya) (xb, yb) (x, y) = up at hU hE
  generalize downB (xa, ya) (xb, yb) (x, y) = dn at hD hE
  generalize windE (xa, ya) (xb, yb) (x, y) = E at hE ⊢
  generalize hsd : (xb - xa) * (y - ya) - (x - xa) * (yb - ya) = sd at hU hD v7
  clear m1 m2 px py ax ay bx byy ha hb hp
  go_enter Try.func142, Try.ntmps142
  go_upto_region 1 with fail
  obtain ⟨W, hW⟩ : ∃ W, W = ((w.alloc (.cells #[.int .i64 xa, .int .i64 ya] 105)).alloc (.cells #[.int .i64 xb, .int .i64 yb] 105)).alloc (.cells #[.int .i64 x, .int .i64 y] 105) := ⟨_, rfl⟩
  obtain ⟨a0, a1⟩ := row2 (show W.heap[w.heap.size]? = some (.cells #[.int .i64 xa, .int .i64 ya] 105 (0, 0)) by rw [hW]; exact al3_0 _ _ _ _)
  obtain ⟨b0, b1⟩ := row2 (show W.heap[w.heap.size + 1]? = some (.cells #[.int .i64 xb, .int .i64 yb] 105 (0, 0)) by rw [hW]; exact al3_1 _ _ _ _)
  obtain ⟨p0, p1⟩ := row2 (show W.heap[w.heap.size + 1 + 1]? = some (.cells #[.int .i64 x, .int .i64 y] 105 (0, 0)) by rw [hW]; exact al3_2 _ _ _ _)
  have HB : Hid (Below w.heap.size w W) := by unfold Hid; rw [hW]; exact al3_below _ _ _ _
  rw [← hW]
  clear hW
  generalize w.heap.size + 1 + 1 = s5 at p0 p1 ⊢
  generalize w.heap.size + 1 = s4 at b0 b1 ⊢
  obtain ⟨s3, hs3⟩ : ∃ s, Hid (s = w.heap.size) := ⟨_, rfl⟩
  rw [← unhide hs3] at a0 a1
  rw [← unhide hs3]
  go_upto_region 2 with fail
  by_cases c1 : ya ≤ y
  · by_cases c2 : y < yb
    · have c4 : ¬ yb ≤ y := by omega
      by_cases c3 : 0 < sd
      · have hv : Hid (1 = E) := by unfold Hid; rw [unhide hE, unhide hU]; simp [c1, c2, c3]
        go_wp2_with fail
        go_ret
        exact ⟨ret_int (unhide hv), unhide HB⟩
      · have hv : Hid (0 = E) := by unfold Hid; rw [unhide hE, unhide hU, unhide hD]; simp [c1, c2, c3, c4]
        go_wp2_with fail
        go_ret
        exact ⟨ret_int (unhide hv), unhide HB⟩
    · have c4 : yb ≤ y := by omega
      have c5 : ¬ y < ya := by omega
      have hv : Hid (0 = E) := by unfold Hid; rw [unhide hE, unhide hU, unhide hD]; simp [c1, c2, c4, c5]
      go_wp2_with fail
      go_ret
      exact ⟨ret_int (unhide hv), unhide HB⟩
  · have c5 : y < ya := by omega
    by_cases c4 : yb ≤ y
    · by_cases c3 : sd < 0
      · have hv : Hid (-1 = E) := by unfold Hid; rw [unhide hE, unhide hU, unhide hD]; simp [c1, c3, c4, c5]
        go_wp2_with fail
        go_ret
        exact ⟨ret_int (unhide hv), unhide HB⟩
      · have hv : Hid (0 = E) := by unfold Hid; rw [unhide hE, unhide hU, unhide hD]; simp [c1, c3, c4, c5]
        go_wp2_with fail
        go_ret
        exact ⟨ret_int (unhide hv), unhide HB⟩
    · have hv : Hid (0 = E) := by unfold Hid; rw [unhide hE, unhide hU, unhide hD]; simp [c1, c4]
      go_wp2_with fail
      go_ret
      exact ⟨ret_int (unhide hv), unhide HB⟩
end Go.Proofs.Ytmomgbnhildpdab

/-
  The program's WindOf, Covers and CountOf.
-/
namespace Go.Proofs.Ytmomgbnhildpdab
open Go.RowKit
set_option linter.unusedVariables false

/-- One point in a row. -/
theorem one_arg {w : World} {x y : Int} {b : Nat} {t : TypeId} (h : w.heap[b]? = some (.cells #[.int .i64 x, .int .i64 y] t (0, 0))) :
    ∀ i, i < 1 → PtArg w (some ⟨b, 0, none⟩) i ((fun _ => (x, y)) i : Pt) := by
  intro i hi
  obtain ⟨r0, r1⟩ := row2 h
  match i, hi with
  | 0, _ => exact ⟨_, _, rfl, r0, r1⟩
theorem one_near {x y : Int} : nearB x y = true ↔ ∀ i, i < 1 → nearB ((fun _ => (x, y)) i : Pt).1 ((fun _ => (x, y)) i : Pt).2 = true :=
  ⟨fun h _ _ => h, fun h => h 0 (by omega)⟩

set_option maxHeartbeats 8000000 in
set_option maxRecDepth 100000 in
theorem implWindOf_any (pf : Nat → Pt) (la : Option Addr) (n lc : Nat) (hn : n ≤ 1048576) (x y : Int) (w : World) (P : ∀ i, i < n → PtArg w la i (pf i)) :
    Calls Try.prog 135 #[.slice la n lc, .agg #[.int .i64 x, .int .i64 y]] w fun e w' => e = .returned (.int .i64 (windP n pf (x, y))) ∧ Below w.heap.size w w' := by
  obtain ⟨lk, hlk⟩ : ∃ b : Bool, b = true ↔ allNear n pf := by
    by_cases h : allNear n pf
    · exact ⟨true, by simp [h]⟩
    · exact ⟨false, by simp [h]⟩
  have EA := hide (fun u P => implInReach_any pf la n lc hn u lk hlk P)
  have EP := hide (fun u b h => implInReach_any (fun _ => (x, y)) (some ⟨b, 0, none⟩) 1 1 (by omega) u (nearB x y) one_near (one_arg (t := 105) h))
  replace P := hide P
  cases hp : nearB x y with
  | false =>
    rw [windP_no (fun h => by have := h.1; dsimp only at this; rw [hp] at this; cases this)]
    rw [hp] at EP
    clear hp hlk
    go_enter Try.func135, Try.ntmps135
    go_wp2_with fail
    go_fit (unhide EP _ _ (al2_1 _ _ _))
    rintro r w1 ⟨rfl, hb⟩
    go_wp2_with fail
    go_ret
    exact ⟨rfl, below_two (al2_below _ _ _) hb⟩
  | true =>
    rw [hp] at EP
    have hA : Hid (lk = true → windP n pf (x, y) = windB n pf (x, y) n) := fun h => (windP_yes hp (hlk.1 h)).trans (windB_all n pf (x, y)).symm
    have hN : Hid (lk = false → windP n pf (x, y) = 0) := fun h => windP_no (fun h' => by rw [hlk.2 h'.2] at h; cases h)
    have hal : Hid (lk = true → ∀ i, i < n → nearB (pf i).1 (pf i).2 = true) := fun h => hlk.1 h
    have hpn := hide hp
    generalize windP n pf (x, y) = R at hA hN ⊢
    clear hp hlk
    go_enter Try.func135, Try.ntmps135
    go_upto_region 1 with fail
    have R3 := hide (new_row w (.cells #[.int .i64 x, .int .i64 y] 105))
    have HB := hide (al1_below w (.cells #[.int .i64 x, .int .i64 y] 105))
    obtain ⟨b3, hb3⟩ : ∃ b, Hid (b = w.heap.size) := ⟨_, rfl⟩
    rw [← unhide hb3] at R3
    rw [← unhide hb3]
    generalize w.alloc (.cells #[.int .i64 x, .int .i64 y] 105) = W at R3 HB ⊢
    obtain ⟨p0, p1⟩ := row2 (unhide R3)
    go_wp2_with fail
    go_fit (unhide EP _ _ (new_row _ _))
    rintro r w1 ⟨rfl, hb⟩
    replace hb := below_two (al1_below _ _) hb
    replace R3 := hide (row_next hb (unhide R3))
    replace HB := hide (below_two (unhide HB) hb)
    clear hb EP p0 p1
    have EA1 := hide (unhide EA w1 (fun i hi => (unhide P i hi).next (unhide HB)))
    clear EA
    cases lk with
    | false =>
      have hR := hide (unhide hN rfl)
      go_wp2_with fail
      go_fit (unhide EA1)
      rintro r w2 ⟨rfl, hb⟩
      go_wp2_with fail
      go_ret
      exact ⟨ret_int (unhide hR).symm, below_two (unhide HB) hb⟩
    | true =>
      have hR := hide (unhide hA rfl)
      have hal' := hide (unhide hal rfl)
      clear hA hN hal
      go_wp2_with fail
      go_fit (unhide EA1)
      rintro r w2 ⟨rfl, hb⟩
      replace R3 := hide (row_next hb (unhide R3))
      replace HB := hide (below_two (unhide HB) hb)
      clear hb EA1
      go_wp2_with fail
      go_loopw [5, 20] (fun s i u => ∃ k : Nat, k ≤ n ∧ i = .int .i64 k ∧ s = .int .i64 (windB n pf (x, y) k) ∧ Hid (Below w.heap.size w u) ∧ Hid (u.heap[b3]? = some (.cells #[.int .i64 x, .int .i64 y] 105 (0, 0)))) (fun _ i _ => n - (intOf i).toNat)
      case atStart => exact ⟨0, Nat.zero_le _, rfl, rfl, HB, R3⟩
      case round =>
        clear HB R3
        obtain ⟨k, hk, rfl, rfl, HB, R3⟩ := hrel
        have hS := windB_bd n pf (x, y) k
        by_cases hlt : k < n
        · have hk1 : (k + n - 1) % n < n := Nat.mod_lt _ (by omega)
          have hs1 : Hid (windB n pf (x, y) (k + 1) = windB n pf (x, y) k + windE (pf ((k + n - 1) % n)) (pf k) (x, y)) := rfl
          have Pb := (unhide P k hlt).next (unhide HB)
          have Pa := (unhide P _ hk1).next (unhide HB)
          have e1' : ((k : Int) + (n : Int) - 1).tmod (n : Int) = (((k + n - 1) % n : Nat) : Int) := by
            rw [Int.tmod_eq_emod_of_nonneg (by omega), show ((k : Int) + (n : Int) - 1) = ((k + n - 1 : Nat) : Int) by omega]; push_cast; rfl
          have nb := unhide hal' k hlt
          have na := unhide hal' _ hk1
          generalize (k + n - 1) % n = k1 at *
          obtain ⟨za, hza⟩ : ∃ z, pf k1 = z := ⟨_, rfl⟩
          obtain ⟨zb, hzb⟩ : ∃ z, pf k = z := ⟨_, rfl⟩
          rw [hza] at Pa hs1 na
          rw [hzb] at Pb hs1 nb
          clear hza hzb
          obtain ⟨xa, ya⟩ := za
          obtain ⟨xb, yb⟩ := zb
          have EE := hide (fun u => implEdge_any xa ya xb yb x y na nb (unhide hpn) u)
          have hwe := windE_bd (xa, ya) (xb, yb) (x, y)
          generalize windE (xa, ya) (xb, yb) (x, y) = e at hs1 EE hwe
          generalize windB n pf (x, y) k = S at hS hs1 ⊢
          obtain ⟨s0, o0, rfl, a0, a1⟩ := Pa
          obtain ⟨_, _, e1, b0, b1⟩ := Pb
          cases e1
          dsimp only at a0 a1 b0 b1
          have w1' : IntKind.i64.wrap ((k : Int) + (n : Int)) = (k : Int) + (n : Int) := IntWalk.i64_in _ (by omega)
          have w2' : IntKind.i64.wrap ((k : Int) + (n : Int) - 1) = (k : Int) + (n : Int) - 1 := IntWalk.i64_in _ (by omega)
          have w3' : IntKind.i64.wrap (S + e) = S + e := IntWalk.i64_in _ (by omega)
          have hki : (k : Int) < (n : Int) := by omega
          have hk1i : (k1 : Int) < (n : Int) := by omega
          have hn0 : ¬ n = 0 := by omega
          have hnz : ((n : Int) == 0) = false := beq_eq_false_iff_ne.2 (by omega)
          have na0 := fun o => kn o a0
          have na1 := fun o => kn o a1
          clear na nb
          go_upto_region 8 with fail
          obtain ⟨W2, hW⟩ : ∃ W2, W2 = (wr.alloc (.cells #[.int .i64 xb, .int .i64 yb] 105)).alloc (.cells #[.int .i64 xa, .int .i64 ya] 105) := ⟨_, rfl⟩
          have Rb := hide (show W2.heap[wr.heap.size]? = some (.cells #[.int .i64 xb, .int .i64 yb] 105 (0, 0)) by rw [hW]; exact al2_0 _ _ _)
          have Ra := hide (show W2.heap[wr.heap.size + 1]? = some (.cells #[.int .i64 xa, .int .i64 ya] 105 (0, 0)) by rw [hW]; exact al2_1 _ _ _)
          have hbw : Below wr.heap.size wr W2 := by rw [hW]; exact al2_below _ _ _
          replace R3 := hide (row_next hbw (unhide R3))
          replace HB := hide (below_two (unhide HB) hbw)
          rw [← hW]
          clear hW hbw a0 a1 b0 b1 na0 na1
          generalize wr.heap.size + 1 = b8 at Ra ⊢
          generalize wr.heap.size = b7 at Rb ⊢
          obtain ⟨a0, a1⟩ := row2 (unhide Ra)
          obtain ⟨b0, b1⟩ := row2 (unhide Rb)
          obtain ⟨p0, p1⟩ := row2 (unhide R3)
          go_wp2_with fail
          go_fit (unhide EE _)
          rintro r w4 ⟨rfl, hb4⟩
          clear a0 a1 b0 b1 p0 p1
          go_wp2_with fail
          go_roundw
          case rel => exact ⟨k + 1, by omega, by go_num, by rw [unhide hs1], below_two (unhide HB) hb4, row_next hb4 (unhide R3)⟩
          case measure => simp [intOf]; omega
        · have hke : k = n := by omega
          subst hke
          have hki : ¬ (k : Int) < (k : Int) := by omega
          go_wp2_with fail
          go_ret
          exact ⟨ret_int (unhide hR).symm, unhide HB⟩

set_option maxHeartbeats 4000000 in
set_option maxRecDepth 100000 in
theorem implCovers_any (N : Nat) (ln : Nat → Nat) (pf : Nat → Nat → Pt) (hN : N ≤ 1048576) (hl : ∀ i, i < N → ln i ≤ 1048576) (la : Option Addr) (lc : Nat) (even : Bool) (x y : Int) (w : World) (L : ∀ i, i < N → LArg w la i (ln i) (pf i)) :
    Calls Try.prog 115 #[.slice la N lc, .bool even, .agg #[.int .i64 x, .int .i64 y]] w fun e w' => e = .returned (.bool (coversB N ln pf even (x, y))) ∧ Below w.heap.size w w' := by
  have hbd := hide (fun k hk => coverN_bd hl pf (x, y) k hk)
  have EW := hide (fun i (hi : i < N) (a : Option Addr) (c : Nat) u P => implWindOf_any (pf i) a (ln i) c (hl i hi) x y u P)
  have hwb := hide (fun i (hi : i < N) => (⟨windP_bd (ln i) (pf i) (x, y), hl i hi⟩ : (-(ln i : Int) ≤ windP (ln i) (pf i) (x, y) ∧ windP (ln i) (pf i) (x, y) ≤ (ln i : Int)) ∧ ln i ≤ 1048576))
  obtain ⟨C, hC⟩ : ∃ C, Hid (coversB N ln pf even (x, y) = C) := ⟨_, rfl⟩
  rw [unhide hC]
  have hs0 : Hid (∀ k, coverN ln pf (x, y) (k + 1) = coverN ln pf (x, y) k + windP (ln k) (pf k) (x, y)) := fun k => rfl
  replace L := hide L
  replace hl := hide hl
  go_enter Try.func115, Try.ntmps115
  go_wp2_with fail
  have R5 := hide (new_row w (.cells #[.int .i64 x, .int .i64 y] 105))
  have HB := hide (al1_below w (.cells #[.int .i64 x, .int .i64 y] 105))
  obtain ⟨b5, hb5⟩ : ∃ b, Hid (b = w.heap.size) := ⟨_, rfl⟩
  rw [← unhide hb5] at R5
  rw [← unhide hb5]
  generalize w.alloc (.cells #[.int .i64 x, .int .i64 y] 105) = W at R5 HB ⊢
  go_loopw [7, 12] (fun s i u => ∃ k : Nat, k ≤ N ∧ i = .int .i64 k ∧ s = .int .i64 (coverN ln pf (x, y) k) ∧ Hid (Below w.heap.size w u) ∧ Hid (u.heap[b5]? = some (.cells #[.int .i64 x, .int .i64 y] 105 (0, 0)))) (fun _ i _ => N - (intOf i).toNat)
  case atStart => exact ⟨0, Nat.zero_le _, rfl, rfl, HB, R5⟩
  case round =>
    clear HB R5
    obtain ⟨k, hk, rfl, rfl, HB, R5⟩ := hrel
    have hS := unhide hbd k hk
    by_cases hlt : k < N
    · obtain ⟨s0, o0, xx, cx, rfl, g0, hP⟩ := (unhide L k hlt).next (unhide HB)
      have hw1 := unhide hwb k hlt
      have hs1 := hide (unhide hs0 k)
      have E1 := hide (fun u (hu : Below wr.heap.size wr u) => unhide EW k hlt xx cx u (fun j hj => (hP j hj).next hu))
      generalize windP (ln k) (pf k) (x, y) = wk at hw1 hs1 E1
      generalize coverN ln pf (x, y) k = S at hS hs1 ⊢
      obtain ⟨lk, hlk⟩ : ∃ lk, Hid (ln k = lk) := ⟨_, rfl⟩
      rw [unhide hlk] at g0 E1 hw1
      have w1' : IntKind.i64.wrap (S + wk) = S + wk := IntWalk.i64_in _ (by omega)
      have hki : (k : Int) < (N : Int) := by omega
      have E2 := hide (unhide E1 _ (Below.refl _ _))
      obtain ⟨p0, p1⟩ := row2 (unhide R5)
      clear hP hw1
      go_wp2_with fail
      go_fit (unhide E2)
      rintro r w4 ⟨rfl, hb4⟩
      clear g0 p0 p1
      go_wp2_with fail
      go_roundw
      case rel => exact ⟨k + 1, by omega, by go_num, by rw [unhide hs1], below_two (unhide HB) hb4, row_next hb4 (unhide R5)⟩
      case measure => simp [intOf]; omega
    · have hke : k = N := by omega
      subst hke
      have hki : ¬ (k : Int) < (k : Int) := by omega
      unfold coversB at hC
      generalize coverN ln pf (x, y) k = S at hS hC ⊢
      cases even with
      | true =>
        have hC2 : Hid (decide (S % 2 ≠ 0) = C) := unhide hC
        by_cases h2 : S.tmod 2 = 0
        · have h3 : S % 2 = 0 := (tm2 S).1 h2
          go_wp2_with fail
          go_ret
          exact ⟨congrArg (fun z => Ending.returned (.bool z)) (by rw [← unhide hC2]; simp [h3]), unhide HB⟩
        · have h3 : ¬ S % 2 = 0 := fun h => h2 ((tm2 S).2 h)
          have h4 : (S.tmod 2 == 0) = false := beq_eq_false_iff_ne.2 h2
          go_wp2_with fail
          go_ret
          exact ⟨congrArg (fun z => Ending.returned (.bool z)) (by rw [← unhide hC2]; simp [h2, h3]), unhide HB⟩
      | false =>
        have hC2 : Hid (decide (S ≠ 0) = C) := unhide hC
        by_cases h2 : S = 0
        · go_wp2_with fail
          go_ret
          exact ⟨congrArg (fun z => Ending.returned (.bool z)) (by rw [← unhide hC2]; simp [h2]), unhide HB⟩
        · have h4 : (S == 0) = false := beq_eq_false_iff_ne.2 h2
          go_wp2_with fail
          go_ret
          exact ⟨congrArg (fun z => Ending.returned (.bool z)) (by rw [← unhide hC2]; simp [h2]), unhide HB⟩
end Go.Proofs.Ytmomgbnhildpdab

/-
  The program's pointsAt and MaskAt.
-/
namespace Go.Proofs.Ytmomgbnhildpdab
open Go.RowKit
set_option linter.unusedVariables false

theorem row8 {w1 : World} {b : Nat} {x0 x1 x2 x3 x4 x5 x6 x7 : Value} {t : TypeId} (h : w1.heap[b]? = some (.cells #[x0, x1, x2, x3, x4, x5, x6, x7] t (0, 0))) : w1.cell? ⟨b, 0, none⟩ = some x0 ∧ w1.cell? ⟨b, 1, none⟩ = some x1 ∧ w1.cell? ⟨b, 2, none⟩ = some x2 ∧ w1.cell? ⟨b, 3, none⟩ = some x3 ∧ w1.cell? ⟨b, 4, none⟩ = some x4 ∧ w1.cell? ⟨b, 5, none⟩ = some x5 ∧ w1.cell? ⟨b, 6, none⟩ = some x6 ∧ w1.cell? ⟨b, 7, none⟩ = some x7 := by
  refine ⟨?_, ?_, ?_, ?_, ?_, ?_, ?_, ?_⟩ <;> simp [World.cell?, h]

set_option maxHeartbeats 4000000 in
set_option maxRecDepth 100000 in
theorem implPointsAt_in (x y : Int) (hx : -2000 ≤ x ∧ x ≤ 2000) (hy : -2000 ≤ y ∧ y ≤ 2000) (w : World) :
    Calls Try.prog 114 #[.int .i64 x, .int .i64 y] w fun e w' => e = .returned (.agg #[.int .i64 (256 * x + 64), .int .i64 (256 * y + 64), .int .i64 (256 * x + 192), .int .i64 (256 * y + 64), .int .i64 (256 * x + 64), .int .i64 (256 * y + 192), .int .i64 (256 * x + 192), .int .i64 (256 * y + 192)]) ∧ Below w.heap.size w w' := by
  have a1 : IntKind.i64.wrap (256 * x) = 256 * x := IntWalk.i64_in _ (by omega)
  have a2 : IntKind.i64.wrap (256 * x + 64) = 256 * x + 64 := IntWalk.i64_in _ (by omega)
  have a3 : IntKind.i64.wrap (256 * y) = 256 * y := IntWalk.i64_in _ (by omega)
  have a4 : IntKind.i64.wrap (256 * y + 64) = 256 * y + 64 := IntWalk.i64_in _ (by omega)
  have a5 : IntKind.i64.wrap (256 * x + 192) = 256 * x + 192 := IntWalk.i64_in _ (by omega)
  have a6 : IntKind.i64.wrap (256 * y + 192) = 256 * y + 192 := IntWalk.i64_in _ (by omega)
  have h1 : ¬ x < -2000 := by omega
  have h2 : ¬ 2000 < x := by omega
  have h3 : ¬ y < -2000 := by omega
  have h4 : ¬ 2000 < y := by omega
  clear hx hy
  go_enter Try.func114, Try.ntmps114
  go_wp2_with fail
  obtain ⟨r0, r1, r2, r3, r4, r5, r6, r7⟩ := row8 (new_row w (.cells #[.int .i64 (256 * x + 64), .int .i64 (256 * y + 64), .int .i64 (256 * x + 192), .int .i64 (256 * y + 64), .int .i64 (256 * x + 64), .int .i64 (256 * y + 192), .int .i64 (256 * x + 192), .int .i64 (256 * y + 192)] 138))
  refine bodyPost_ret (v := .agg #[.int .i64 (256 * x + 64), .int .i64 (256 * y + 64), .int .i64 (256 * x + 192), .int .i64 (256 * y + 64), .int .i64 (256 * x + 64), .int .i64 (256 * y + 192), .int .i64 (256 * x + 192), .int .i64 (256 * y + 192)]) (by simp [results, Try.results114, go_sem, r0, r1, r2, r3, r4, r5, r6, r7]) rfl ⟨rfl, ?_⟩
  exact al1_below _ _

set_option maxHeartbeats 4000000 in
set_option maxRecDepth 100000 in
theorem implPointsAt_out (x y : Int) (h : x < -2000 ∨ 2000 < x ∨ y < -2000 ∨ 2000 < y) (w : World) :
    Calls Try.prog 114 #[.int .i64 x, .int .i64 y] w fun e w' => e = .returned (.agg #[.int .i64 0, .int .i64 0, .int .i64 0, .int .i64 0, .int .i64 0, .int .i64 0, .int .i64 0, .int .i64 0]) ∧ Below w.heap.size w w' := by
  by_cases h1 : x < -2000
  · clear h
    go_enter Try.func114, Try.ntmps114
    go_wp2_with fail
    obtain ⟨r0, r1, r2, r3, r4, r5, r6, r7⟩ := row8 (new_row w (.cells #[.int .i64 0, .int .i64 0, .int .i64 0, .int .i64 0, .int .i64 0, .int .i64 0, .int .i64 0, .int .i64 0] 138))
    refine bodyPost_ret (v := .agg #[.int .i64 0, .int .i64 0, .int .i64 0, .int .i64 0, .int .i64 0, .int .i64 0, .int .i64 0, .int .i64 0]) (by simp [results, Try.results114, go_sem, r0, r1, r2, r3, r4, r5, r6, r7]) rfl ⟨rfl, ?_⟩
    exact al1_below _ _
  by_cases h2 : 2000 < x
  · clear h
    go_enter Try.func114, Try.ntmps114
    go_wp2_with fail
    obtain ⟨r0, r1, r2, r3, r4, r5, r6, r7⟩ := row8 (new_row w (.cells #[.int .i64 0, .int .i64 0, .int .i64 0, .int .i64 0, .int .i64 0, .int .i64 0, .int .i64 0, .int .i64 0] 138))
    refine bodyPost_ret (v := .agg #[.int .i64 0, .int .i64 0, .int .i64 0, .int .i64 0, .int .i64 0, .int .i64 0, .int .i64 0, .int .i64 0]) (by simp [results, Try.results114, go_sem, r0, r1, r2, r3, r4, r5, r6, r7]) rfl ⟨rfl, ?_⟩
    exact al1_below _ _
  by_cases h3 : y < -2000
  · clear h
    go_enter Try.func114, Try.ntmps114
    go_wp2_with fail
    obtain ⟨r0, r1, r2, r3, r4, r5, r6, r7⟩ := row8 (new_row w (.cells #[.int .i64 0, .int .i64 0, .int .i64 0, .int .i64 0, .int .i64 0, .int .i64 0, .int .i64 0, .int .i64 0] 138))
    refine bodyPost_ret (v := .agg #[.int .i64 0, .int .i64 0, .int .i64 0, .int .i64 0, .int .i64 0, .int .i64 0, .int .i64 0, .int .i64 0]) (by simp [results, Try.results114, go_sem, r0, r1, r2, r3, r4, r5, r6, r7]) rfl ⟨rfl, ?_⟩
    exact al1_below _ _
  have h4 : 2000 < y := by omega
  · clear h
    go_enter Try.func114, Try.ntmps114
    go_wp2_with fail
    obtain ⟨r0, r1, r2, r3, r4, r5, r6, r7⟩ := row8 (new_row w (.cells #[.int .i64 0, .int .i64 0, .int .i64 0, .int .i64 0, .int .i64 0, .int .i64 0, .int .i64 0, .int .i64 0] 138))
    refine bodyPost_ret (v := .agg #[.int .i64 0, .int .i64 0, .int .i64 0, .int .i64 0, .int .i64 0, .int .i64 0, .int .i64 0, .int .i64 0]) (by simp [results, Try.results114, go_sem, r0, r1, r2, r3, r4, r5, r6, r7]) rfl ⟨rfl, ?_⟩
    exact al1_below _ _

theorem eqFour_yes (w : World) : (binOp .eql 138 (.agg #[.int .i64 0, .int .i64 0, .int .i64 0, .int .i64 0, .int .i64 0, .int .i64 0, .int .i64 0, .int .i64 0]) (.agg #[.int .i64 0, .int .i64 0, .int .i64 0, .int .i64 0, .int .i64 0, .int .i64 0, .int .i64 0, .int .i64 0])).run Try.prog w = .ok (.bool true) w := by kernel_rfl
theorem eqFour_no (w : World) (l a b c d e f g : Int) (h : ¬ l = 0) : (binOp .eql 138 (.agg #[.int .i64 l, .int .i64 a, .int .i64 b, .int .i64 c, .int .i64 d, .int .i64 e, .int .i64 f, .int .i64 g]) (.agg #[.int .i64 0, .int .i64 0, .int .i64 0, .int .i64 0, .int .i64 0, .int .i64 0, .int .i64 0, .int .i64 0])).run Try.prog w = .ok (.bool false) w := by
  cases l with
  | ofNat n =>
    cases n with
    | zero => exact absurd rfl h
    | succ n => kernel_rfl
  | negSucc n => kernel_rfl
theorem ixFour0 (w : World) (v0 v1 v2 v3 v4 v5 v6 v7 : Int) : (Instr.index 138 (.agg #[.int .i64 v0, .int .i64 v1, .int .i64 v2, .int .i64 v3, .int .i64 v4, .int .i64 v5, .int .i64 v6, .int .i64 v7]) (.int .i64 0)).run Try.prog w = .ok (.agg #[.int .i64 v0, .int .i64 v1]) w := by kernel_rfl
theorem ixFour1 (w : World) (v0 v1 v2 v3 v4 v5 v6 v7 : Int) : (Instr.index 138 (.agg #[.int .i64 v0, .int .i64 v1, .int .i64 v2, .int .i64 v3, .int .i64 v4, .int .i64 v5, .int .i64 v6, .int .i64 v7]) (.int .i64 1)).run Try.prog w = .ok (.agg #[.int .i64 v2, .int .i64 v3]) w := by kernel_rfl
theorem ixFour2 (w : World) (v0 v1 v2 v3 v4 v5 v6 v7 : Int) : (Instr.index 138 (.agg #[.int .i64 v0, .int .i64 v1, .int .i64 v2, .int .i64 v3, .int .i64 v4, .int .i64 v5, .int .i64 v6, .int .i64 v7]) (.int .i64 2)).run Try.prog w = .ok (.agg #[.int .i64 v4, .int .i64 v5]) w := by kernel_rfl
theorem ixFour3 (w : World) (v0 v1 v2 v3 v4 v5 v6 v7 : Int) : (Instr.index 138 (.agg #[.int .i64 v0, .int .i64 v1, .int .i64 v2, .int .i64 v3, .int .i64 v4, .int .i64 v5, .int .i64 v6, .int .i64 v7]) (.int .i64 3)).run Try.prog w = .ok (.agg #[.int .i64 v6, .int .i64 v7]) w := by kernel_rfl

theorem mask_in {N : Nat} {ln : Nat → Nat} {pf : Nat → Nat → Pt} {even : Bool} {x y : Int} (hx : -2000 ≤ x ∧ x ≤ 2000) (hy : -2000 ≤ y ∧ y ≤ 2000) : maskP N ln pf even x y = maskN N ln pf even x y 4 := by
  unfold maskP; rw [if_pos]; rw [Bool.and_eq_true, inB_true, inB_true]; exact ⟨hx, hy⟩
theorem mask_out {N : Nat} {ln : Nat → Nat} {pf : Nat → Nat → Pt} {even : Bool} {x y : Int} (h : x < -2000 ∨ 2000 < x ∨ y < -2000 ∨ 2000 < y) : maskP N ln pf even x y = 0 := by
  unfold maskP; rw [if_neg]; rw [Bool.and_eq_true, inB_true, inB_true]; omega

attribute [local go_sem ↓] eqFour_yes eqFour_no ixFour0 ixFour1 ixFour2 ixFour3 in
set_option maxHeartbeats 4000000 in
set_option maxRecDepth 100000 in
theorem implMaskAt_any (N : Nat) (ln : Nat → Nat) (pf : Nat → Nat → Pt) (hN : N ≤ 1048576) (hl : ∀ i, i < N → ln i ≤ 1048576) (la : Option Addr) (lc : Nat) (even : Bool) (x y : Int) (w : World) (L : ∀ i, i < N → LArg w la i (ln i) (pf i)) :
    Calls Try.prog 85 #[.slice la N lc, .bool even, .int .i64 x, .int .i64 y] w fun e w' => e = .returned (.int .i64 (maskP N ln pf even x y)) ∧ Below w.heap.size w w' := by
  by_cases h : x < -2000 ∨ 2000 < x ∨ y < -2000 ∨ 2000 < y
  · rw [mask_out h]
    have EP := hide (implPointsAt_out x y h)
    clear h L
    go_enter Try.func85, Try.ntmps85
    go_wp2_with fail
    go_fit (unhide EP _)
    rintro r w1 ⟨rfl, hb⟩
    obtain ⟨r0, r1, r2, r3, r4, r5, r6, r7⟩ := row8 (new_row w1 (.cells #[.int .i64 0, .int .i64 0, .int .i64 0, .int .i64 0, .int .i64 0, .int .i64 0, .int .i64 0, .int .i64 0] 138))
    go_wp2_with fail
    go_ret
    exact ⟨rfl, below_new _ hb (Nat.le_refl _)⟩
  have hx : -2000 ≤ x ∧ x ≤ 2000 := by omega
  have hy : -2000 ≤ y ∧ y ≤ 2000 := by omega
  clear h
  rw [mask_in hx hy]
  have EP := hide (implPointsAt_in x y hx hy)
  have EC := hide (fun (a b : Int) u L => implCovers_any N ln pf hN hl la lc even a b u L)
  have hbd := hide (maskN_bd N ln pf even x y)
  have hs : Hid (∀ k, maskN N ln pf even x y (k + 1) = maskN N ln pf even x y k + if coversB N ln pf even (pointI x y k) = true then (2 : Int) ^ k else 0) := fun k => rfl
  have h0 : Hid (maskN N ln pf even x y 0 = 0) := rfl
  have q0 : Hid (pointI x y 0 = (256 * x + 64, 256 * y + 64)) := by unfold Hid pointI; exact Prod.ext (by dsimp only; omega) (by dsimp only; omega)
  have q1 : Hid (pointI x y 1 = (256 * x + 192, 256 * y + 64)) := by unfold Hid pointI; exact Prod.ext (by dsimp only; omega) (by dsimp only; omega)
  have q2 : Hid (pointI x y 2 = (256 * x + 64, 256 * y + 192)) := by unfold Hid pointI; exact Prod.ext (by dsimp only; omega) (by dsimp only; omega)
  have q3 : Hid (pointI x y 3 = (256 * x + 192, 256 * y + 192)) := by unfold Hid pointI; exact Prod.ext (by dsimp only; omega) (by dsimp only; omega)
  have hl0 : ((256 * x + 64) == 0) = false := beq_eq_false_iff_ne.2 (by omega)
  replace L := hide L
  replace hl := hide hl
  generalize maskN N ln pf even x y = mk at hbd hs h0 ⊢
  generalize pointI x y = pt at hs q0 q1 q2 q3
  generalize 256 * x + 64 = l at EP q0 q1 q2 q3 hl0
  generalize 256 * x + 192 = r at EP q0 q1 q2 q3
  generalize 256 * y + 64 = u at EP q0 q1 q2 q3
  generalize 256 * y + 192 = d at EP q0 q1 q2 q3
  clear hx hy
  have hlz : ¬ l = 0 := beq_eq_false_iff_ne.1 hl0
  go_enter Try.func85, Try.ntmps85
  go_wp2_with fail
  go_fit (unhide EP _)
  rintro e w1 ⟨rfl, hb⟩
  clear EP
  obtain ⟨r0, r1, r2, r3, r4, r5, r6, r7⟩ := row8 (new_row w1 (.cells #[.int .i64 l, .int .i64 u, .int .i64 r, .int .i64 u, .int .i64 l, .int .i64 d, .int .i64 r, .int .i64 d] 138))
  have HB := hide (below_new (.cells #[.int .i64 l, .int .i64 u, .int .i64 r, .int .i64 u, .int .i64 l, .int .i64 d, .int .i64 r, .int .i64 d] 138) hb (Nat.le_refl _))
  clear hb
  go_upto_region 2 with fail
  generalize w1.alloc (.cells #[.int .i64 l, .int .i64 u, .int .i64 r, .int .i64 u, .int .i64 l, .int .i64 d, .int .i64 r, .int .i64 d] 138) = W at r0 r1 r2 r3 r4 r5 r6 r7 HB ⊢
  go_wp2_with fail
  go_loopw [10, 20] (fun s i v => ∃ k : Nat, k ≤ 4 ∧ i = .int .i64 k ∧ s = .int .i64 (mk k) ∧ Hid (Below w.heap.size w v)) (fun _ i _ => 4 - (intOf i).toNat)
  case atStart => exact ⟨0, by omega, rfl, by rw [unhide h0], HB⟩
  case round =>
    clear HB r0 r1 r2 r3 r4 r5 r6 r7
    obtain ⟨k, hk, rfl, rfl, HB⟩ := hrel
    obtain ⟨hb0, hb1⟩ := unhide hbd k
    have hs1 := hide (unhide hs k)
    by_cases h4 : k = 4
    · subst h4
      obtain ⟨S, hS⟩ : ∃ S, Hid (mk 4 = S) := ⟨_, rfl⟩
      rw [unhide hS] at hb0 hb1 ⊢
      go_wp2_with fail
      go_ret
      exact ⟨ret_int (unhide hS).symm, unhide HB⟩
    · have h5 : k = 0 ∨ k = 1 ∨ k = 2 ∨ k = 3 := by omega
      clear h4
      rcases h5 with rfl | rfl | rfl | rfl
      · rw [unhide q0] at hs1
        have EC1 := hide (unhide EC l u)
        obtain ⟨c, hc⟩ : ∃ c, Hid (coversB N ln pf even (l, u) = c) := ⟨_, rfl⟩
        rw [unhide hc] at hs1 EC1
        clear hc EC
        have hs2 : Hid (mk 1 = mk 0 + if c = true then 1 else 0) := unhide hs1
        clear hs1 hs q0 q1 q2 q3
        obtain ⟨S, hS⟩ : ∃ S, Hid (mk 0 = S) := ⟨_, rfl⟩
        rw [unhide hS] at hb0 hb1 hs2 ⊢
        have b1 : IntKind.i64.wrap (S + 1) = S + 1 := IntWalk.i64_in _ (by omega)
        obtain ⟨p0, p1⟩ := row2 (new_row wr (.cells #[.int .i64 l, .int .i64 u] 105))
        go_wp2_with fail
        have hb2 := below_two (unhide HB) (al1_below wr (.cells #[.int .i64 l, .int .i64 u] 105))
        go_fit (unhide EC1 _ (fun i hi => (unhide L i hi).next hb2))
        rintro e w2 ⟨rfl, hb3⟩
        have hb4 := hide (below_after hb3 hb2 (Nat.le_refl _))
        clear hb2 hb3
        cases c with
        | false =>
          go_wp2_with fail
          go_roundw
          case rel => exact ⟨1, by omega, by go_num, by rw [unhide hs2]; simp, hb4⟩
          case measure => simp [intOf]
        | true =>
          go_wp2_with fail
          go_roundw
          case rel => exact ⟨1, by omega, by go_num, by rw [unhide hs2]; simp, hb4⟩
          case measure => simp [intOf]
      · rw [unhide q1] at hs1
        have EC1 := hide (unhide EC r u)
        obtain ⟨c, hc⟩ : ∃ c, Hid (coversB N ln pf even (r, u) = c) := ⟨_, rfl⟩
        rw [unhide hc] at hs1 EC1
        clear hc EC
        have hs2 : Hid (mk 2 = mk 1 + if c = true then 2 else 0) := unhide hs1
        clear hs1 hs q0 q1 q2 q3
        obtain ⟨S, hS⟩ : ∃ S, Hid (mk 1 = S) := ⟨_, rfl⟩
        rw [unhide hS] at hb0 hb1 hs2 ⊢
        have b1 : IntKind.i64.wrap (S + 2) = S + 2 := IntWalk.i64_in _ (by omega)
        obtain ⟨p0, p1⟩ := row2 (new_row wr (.cells #[.int .i64 r, .int .i64 u] 105))
        go_wp2_with fail
        have hb2 := below_two (unhide HB) (al1_below wr (.cells #[.int .i64 r, .int .i64 u] 105))
        go_fit (unhide EC1 _ (fun i hi => (unhide L i hi).next hb2))
        rintro e w2 ⟨rfl, hb3⟩
        have hb4 := hide (below_after hb3 hb2 (Nat.le_refl _))
        clear hb2 hb3
        cases c with
        | false =>
          go_wp2_with fail
          go_roundw
          case rel => exact ⟨2, by omega, by go_num, by rw [unhide hs2]; simp, hb4⟩
          case measure => simp [intOf]
        | true =>
          go_wp2_with fail
          go_roundw
          case rel => exact ⟨2, by omega, by go_num, by rw [unhide hs2]; simp, hb4⟩
          case measure => simp [intOf]
      · rw [unhide q2] at hs1
        have EC1 := hide (unhide EC l d)
        obtain ⟨c, hc⟩ : ∃ c, Hid (coversB N ln pf even (l, d) = c) := ⟨_, rfl⟩
        rw [unhide hc] at hs1 EC1
        clear hc EC
        have hs2 : Hid (mk 3 = mk 2 + if c = true then 4 else 0) := unhide hs1
        clear hs1 hs q0 q1 q2 q3
        obtain ⟨S, hS⟩ : ∃ S, Hid (mk 2 = S) := ⟨_, rfl⟩
        rw [unhide hS] at hb0 hb1 hs2 ⊢
        have b1 : IntKind.i64.wrap (S + 4) = S + 4 := IntWalk.i64_in _ (by omega)
        obtain ⟨p0, p1⟩ := row2 (new_row wr (.cells #[.int .i64 l, .int .i64 d] 105))
        go_wp2_with fail
        have hb2 := below_two (unhide HB) (al1_below wr (.cells #[.int .i64 l, .int .i64 d] 105))
        go_fit (unhide EC1 _ (fun i hi => (unhide L i hi).next hb2))
        rintro e w2 ⟨rfl, hb3⟩
        have hb4 := hide (below_after hb3 hb2 (Nat.le_refl _))
        clear hb2 hb3
        cases c with
        | false =>
          go_wp2_with fail
          go_roundw
          case rel => exact ⟨3, by omega, by go_num, by rw [unhide hs2]; simp, hb4⟩
          case measure => simp [intOf]
        | true =>
          go_wp2_with fail
          go_roundw
          case rel => exact ⟨3, by omega, by go_num, by rw [unhide hs2]; simp, hb4⟩
          case measure => simp [intOf]
      · rw [unhide q3] at hs1
        have EC1 := hide (unhide EC r d)
        obtain ⟨c, hc⟩ : ∃ c, Hid (coversB N ln pf even (r, d) = c) := ⟨_, rfl⟩
        rw [unhide hc] at hs1 EC1
        clear hc EC
        have hs2 : Hid (mk 4 = mk 3 + if c = true then 8 else 0) := unhide hs1
        clear hs1 hs q0 q1 q2 q3
        obtain ⟨S, hS⟩ : ∃ S, Hid (mk 3 = S) := ⟨_, rfl⟩
        rw [unhide hS] at hb0 hb1 hs2 ⊢
        have b1 : IntKind.i64.wrap (S + 8) = S + 8 := IntWalk.i64_in _ (by omega)
        obtain ⟨p0, p1⟩ := row2 (new_row wr (.cells #[.int .i64 r, .int .i64 d] 105))
        go_wp2_with fail
        have hb2 := below_two (unhide HB) (al1_below wr (.cells #[.int .i64 r, .int .i64 d] 105))
        go_fit (unhide EC1 _ (fun i hi => (unhide L i hi).next hb2))
        rintro e w2 ⟨rfl, hb3⟩
        have hb4 := hide (below_after hb3 hb2 (Nat.le_refl _))
        clear hb2 hb3
        cases c with
        | false =>
          go_wp2_with fail
          go_roundw
          case rel => exact ⟨4, by omega, by go_num, by rw [unhide hs2]; simp, hb4⟩
          case measure => simp [intOf]
        | true =>
          go_wp2_with fail
          go_roundw
          case rel => exact ⟨4, by omega, by go_num, by rw [unhide hs2]; simp, hb4⟩
          case measure => simp [intOf]
end Go.Proofs.Ytmomgbnhildpdab

/-
  The program's MaskOf.
-/
namespace Go.Proofs.Ytmomgbnhildpdab
open Go.RowKit
set_option linter.unusedVariables false

theorem put5_oth {u : World} {b q : Nat} {o : Obj} (h : u.heap[q]? = some o) (hne : q ≠ b) (x y z s t : Value) : (((((u.setCell ⟨b, 0, none⟩ x).setCell ⟨b, 1, none⟩ y).setCell ⟨b, 2, none⟩ z).setCell ⟨b, 3, none⟩ s).setCell ⟨b, 4, none⟩ t).heap[q]? = some o :=
  setc_other hne (setc_other hne (setc_other hne (setc_other hne (setc_other hne h))))
/-- A blank mask that is kept in a variable of the caller's. -/
theorem ByS.begin {w w1 w2 : World} {b2 b4 g : Nat} {a b c d : Int} {N : Nat} (R2 : w1.heap[b2]? = some (.cells #[.int .i64 a, .int .i64 b, .int .i64 c, .int .i64 d] 42 (0, 0))) (R4 : w1.heap[b4]? = some (.cells #[.int .i64 0, .int .i64 0, .int .i64 0, .int .i64 0, .slice none 0 0] 44 (0, 0))) (HB : Below w.heap.size w w1)
    (own : ∃ xs, w2.ownsRow g 3 1 (.slice (some ⟨g, 0, none⟩) N N) N xs ∧ IxAt xs (fun _ => 0) N) (hb : Below w1.heap.size w1 w2) :
    ByS w (w2.alloc (.cells #[.int .i64 a, .int .i64 b, .int .i64 c, .int .i64 d, .slice (some ⟨g, 0, none⟩) N N] 44)) b2 b4 w2.heap.size g a b c d N (fun _ => 0) := by
  obtain ⟨xs, o, x⟩ := own
  exact ⟨row_next (al1_below _ _) (row_next hb R2), row_next (al1_below _ _) (row_next hb R4), new_row _ _, ⟨xs, o.alloc _, x⟩, below_new _ (below_two HB hb) (Nat.le_refl _)⟩
/-- It is handed back. -/
theorem ByS.res {w u : World} {b2 b4 b6 g : Nat} {a b c d : Int} {N : Nat} {f : Nat → Int} (h : ByS w u b2 b4 b6 g a b c d N f) (hw : w.heap.size ≤ g) (h4 : w.heap.size ≤ b4) (h5 : b4 ≠ g) {v0 v1 v2 v3 v4 : Value} :
    ∃ p cp, Ending.returned (.agg #[.int .i64 a, .int .i64 b, .int .i64 c, .int .i64 d, .slice (some ⟨g, 0, none⟩) N N]) = .returned (.agg #[.int .i64 a, .int .i64 b, .int .i64 c, .int .i64 d, .slice p N cp]) ∧ IntsV (((((u.setCell ⟨b4, 0, none⟩ v0).setCell ⟨b4, 1, none⟩ v1).setCell ⟨b4, 2, none⟩ v2).setCell ⟨b4, 3, none⟩ v3).setCell ⟨b4, 4, none⟩ v4) w.heap.size (.slice p N cp) N f ∧ Below w.heap.size w (((((u.setCell ⟨b4, 0, none⟩ v0).setCell ⟨b4, 1, none⟩ v1).setCell ⟨b4, 2, none⟩ v2).setCell ⟨b4, 3, none⟩ v3).setCell ⟨b4, 4, none⟩ v4) := by
  obtain ⟨xs, o, x⟩ := h.own
  exact ⟨_, _, rfl, ⟨xs, own_low (own_put5 o (fun k hk => by simp [Value.ownBlock] at hk; omega) _ _ _ _ _) hw, x⟩, below_put5 h.bel h4 _ _ _ _ _⟩
theorem ix_is {xs : List Value} {f : Nat → Int} {n : Nat} (h : IxAt xs f n) (hl : xs.length = n) : xs = (listN f n).map Iv := by
  apply List.ext_getElem?
  intro j
  by_cases hj : j < n
  · rw [h j hj]; simp [listN, hj, Iv]
  · rw [List.getElem?_eq_none (by omega), List.getElem?_eq_none (by simp [listN]; omega)]
theorem maskRes_of {w w' : World} {r : Ending} {a b c d : Int} {n : Nat} {f : Nat → Int} (h : ∃ p cp, r = .returned (.agg #[.int .i64 a, .int .i64 b, .int .i64 c, .int .i64 d, .slice p n cp]) ∧ IntsV w' w.heap.size (.slice p n cp) n f ∧ Below w.heap.size w w') : MaskRes w r w' a b c d n f := by
  obtain ⟨p, cp, h1, ⟨xs, o, x⟩, h3⟩ := h
  refine ⟨p, cp, h1, ?_, h3⟩
  rw [← ix_is x (by have := o.1; omega)]; exact o
theorem row_place {a b c : Int} {W0 : Nat} (hW : (W0 : Int) = c - a) (j : Nat) : (placeI a b c a (b + (j : Int))).toNat = j * W0 := by
  unfold placeI
  rw [show b + (j : Int) - b = (j : Int) by omega, ← hW, ← Int.natCast_mul]; omega
/-- Filled as far as k. -/
def upto (f : Nat → Int) (k i : Nat) : Int := if i < k then f i else 0
theorem upto_more (f : Nat → Int) (k i : Nat) : (if i = k then f k else upto f k i) = upto f (k + 1) i := by
  unfold upto
  by_cases h : i = k
  · subst h; simp
  · by_cases h2 : i < k
    · rw [if_neg h, if_pos h2, if_pos (by omega)]
    · rw [if_neg h, if_neg h2, if_neg (by omega)]
theorem upto_all {f : Nat → Int} {k : Nat} : ∀ i, i < k → upto f k i = f i := fun i hi => if_pos hi
theorem ByS.fill {w u : World} {b2 b4 b6 g : Nat} {a b c d : Int} {N : Nat} {f : Nat → Int} {k : Nat} (h : ByS w u b2 b4 b6 g a b c d N (upto f k)) (hw : w.heap.size ≤ g) (h2 : b2 < g) (h4 : b4 < g) (h6 : b6 < g ∨ g < b6) (hk : k < N) {z : Int} (hz : f k = z) : ByS w (u.setCell ⟨g, k, none⟩ (.int .i64 z)) b2 b4 b6 g a b c d N (upto f (k + 1)) := by
  obtain ⟨xs, o, x⟩ := h.own
  subst hz
  exact ⟨setc_other (by omega) h.box, setc_other (by omega) h.zero, setc_other (by omega) h.row, ⟨_, (o.stored k _).1, ix_congr (ix_set x (by have := o.1; omega)) (fun i _ => upto_more f k i)⟩, h.bel.setCell (p := ⟨g, k, none⟩) hw _⟩

set_option maxHeartbeats 8000000 in
set_option maxRecDepth 100000 in
theorem implMaskOf_any (N : Nat) (ln : Nat → Nat) (pf : Nat → Nat → Pt) (hN : N ≤ 1048576) (hl : ∀ i, i < N → ln i ≤ 1048576) (la : Option Addr) (lc : Nat) (even : Bool) (a b c d : Int) (w : World) (L : ∀ i, i < N → LArg w la i (ln i) (pf i)) :
    Calls Try.prog 34 #[.slice la N lc, .bool even, .agg #[.int .i64 a, .int .i64 b, .int .i64 c, .int .i64 d]] w fun r w' => MaskRes w r w' (boxV (boxInB a b c d) a) (boxV (boxInB a b c d) b) (boxV (boxInB a b c d) c) (boxV (boxInB a b c d) d) (boxK (boxInB a b c d) (sqN a b c d)) (maskF a b c N ln pf even) := by
  have EB := hide (implMaskBoxOk_any a b c d)
  have EM := hide (fun (x y : Int) u L => implMaskAt_any N ln pf hN hl la lc even x y u L)
  have hfm : Hid (∀ i, maskF a b c N ln pf even i = maskP N ln pf even (sqX a c i) (sqY a b c i)) := fun i => rfl
  replace L := hide L
  replace hl := hide hl
  cases hbi : boxInB a b c d with
  | false =>
    rw [hbi] at EB
    show Calls Try.prog 34 #[.slice la N lc, .bool even, .agg #[.int .i64 a, .int .i64 b, .int .i64 c, .int .i64 d]] w fun r w' => MaskRes w r w' 0 0 0 0 0 (maskF a b c N ln pf even)
    generalize maskF a b c N ln pf even = f at hfm ⊢
    clear hbi hfm
    go_enter Try.func34, Try.ntmps34
    go_upto_region 1 with fail
    have R5 := hide (al2_0 w (.cells #[.int .i64 a, .int .i64 b, .int .i64 c, .int .i64 d] 42) (.cells #[.int .i64 0, .int .i64 0, .int .i64 0, .int .i64 0, .slice none 0 0] 44))
    have R6 := hide (al2_1 w (.cells #[.int .i64 a, .int .i64 b, .int .i64 c, .int .i64 d] 42) (.cells #[.int .i64 0, .int .i64 0, .int .i64 0, .int .i64 0, .slice none 0 0] 44))
    have HB := hide (al2_below w (.cells #[.int .i64 a, .int .i64 b, .int .i64 c, .int .i64 d] 42) (.cells #[.int .i64 0, .int .i64 0, .int .i64 0, .int .i64 0, .slice none 0 0] 44))
    generalize (w.alloc (.cells #[.int .i64 a, .int .i64 b, .int .i64 c, .int .i64 d] 42)).alloc (.cells #[.int .i64 0, .int .i64 0, .int .i64 0, .int .i64 0, .slice none 0 0] 44) = W at R5 R6 HB ⊢
    obtain ⟨q0, q1, q2, q3⟩ := row4 (unhide R5)
    go_wp2_with fail
    go_fit (unhide EB _)
    rintro r w1 ⟨rfl, hb⟩
    replace R6 := hide (row_next hb (unhide R6))
    replace HB := hide (below_two (unhide HB) hb)
    clear hb q0 q1 q2 q3
    obtain ⟨e0, e1, e2, e3, e4⟩ := row5m (unhide R6)
    obtain ⟨f0, f1, f2, f3, f4⟩ := frozen5 (unhide R6)
    go_wp2_with fail
    refine bodyPost_ret (v := .agg #[.int .i64 0, .int .i64 0, .int .i64 0, .int .i64 0, .slice none 0 0]) (by simp [results, Try.results34, go_sem, e0, e1, e2, e3, e4]) rfl ?_
    exact mask_none (below_put5 (unhide HB) (by omega) _ _ _ _ _)
  | true =>
  rw [hbi] at EB
  have hb0 := boxIn_iff.1 hbi
  have hsi := sqN_int hbi
  have hsl := (sqN_le hbi).1
  have EN := hide (implBlankMask_any a b c d (sqN a b c d) (IntWalk.i64_in _ (by omega)) (IntWalk.i64_in _ (by omega)) hsi hsl)
  obtain ⟨W0, hW0⟩ : ∃ W0, W0 = wideN a c := ⟨_, rfl⟩
  obtain ⟨H0, hH0⟩ : ∃ H0, H0 = wideN b d := ⟨_, rfl⟩
  have hsq : sqN a b c d = H0 * W0 := by unfold sqN; rw [hW0, hH0, Nat.mul_comm]
  have hWi : (W0 : Int) = c - a := by rw [hW0]; unfold wideN; omega
  have hHi : (H0 : Int) = d - b := by rw [hH0]; unfold wideN; omega
  have ER := hide (fun (j : Nat) (hj : j < H0) (s : Nat) u => implRowOf_any a b c d (b + (j : Int)) a c s 0 (sqN a b c d) (sqN a b c d) hbi (by omega) (by omega) rfl (Nat.le_refl _) u)
  have hrp := hide (fun j => row_place (b := b) hWi j)
  have hcW : (c - a).toNat = W0 := by omega
  rw [hcW] at ER
  show Calls Try.prog 34 #[.slice la N lc, .bool even, .agg #[.int .i64 a, .int .i64 b, .int .i64 c, .int .i64 d]] w fun r w' => MaskRes w r w' a b c d (sqN a b c d) (maskF a b c N ln pf even)
  have hat : Hid (∀ j t : Nat, t < W0 → maskF a b c N ln pf even (j * W0 + t) = maskP N ln pf even (a + (t : Int)) (b + (j : Int))) := fun j t ht => by
    rw [unhide hfm, (sq_at (b := b) hW0 ht).1, (sq_at (b := b) hW0 ht).2]
  have hWl : W0 ≤ 60 := by omega
  have hHl : H0 ≤ 60 := by omega
  generalize maskF a b c N ln pf even = f at hat ⊢
  generalize sqN a b c d = M at EN ER hsq hsi hsl ⊢
  replace hsq := hide hsq
  clear hfm hW0 hH0 hsi hbi hcW
  go_enter Try.func34, Try.ntmps34
  go_upto_region 1 with fail
  have R5 := hide (al2_0 w (.cells #[.int .i64 a, .int .i64 b, .int .i64 c, .int .i64 d] 42) (.cells #[.int .i64 0, .int .i64 0, .int .i64 0, .int .i64 0, .slice none 0 0] 44))
  have R6 := hide (al2_1 w (.cells #[.int .i64 a, .int .i64 b, .int .i64 c, .int .i64 d] 42) (.cells #[.int .i64 0, .int .i64 0, .int .i64 0, .int .i64 0, .slice none 0 0] 44))
  have HB := hide (al2_below w (.cells #[.int .i64 a, .int .i64 b, .int .i64 c, .int .i64 d] 42) (.cells #[.int .i64 0, .int .i64 0, .int .i64 0, .int .i64 0, .slice none 0 0] 44))
  obtain ⟨b6, hb6⟩ : ∃ b, Hid (b = w.heap.size + 1) := ⟨_, rfl⟩
  obtain ⟨b5, hb5⟩ : ∃ b, Hid (b = w.heap.size) := ⟨_, rfl⟩
  have lz : Hid (w.heap.size ≤ b6 ∧ b5 < b6) := by unfold Hid; rw [unhide hb6, unhide hb5]; omega
  rw [← unhide hb6] at R6
  rw [← unhide hb5] at R5
  rw [← unhide hb6, ← unhide hb5]
  generalize (w.alloc (.cells #[.int .i64 a, .int .i64 b, .int .i64 c, .int .i64 d] 42)).alloc (.cells #[.int .i64 0, .int .i64 0, .int .i64 0, .int .i64 0, .slice none 0 0] 44) = W at R5 R6 HB ⊢
  obtain ⟨q0, q1, q2, q3⟩ := row4 (unhide R5)
  go_wp2_with fail
  go_fit (unhide EB _)
  rintro r w1 ⟨rfl, hb⟩
  replace R5 := hide (row_next hb (unhide R5))
  replace R6 := hide (row_next hb (unhide R6))
  replace HB := hide (below_two (unhide HB) hb)
  clear hb q0 q1 q2 q3
  obtain ⟨q0, q1, q2, q3⟩ := row4 (unhide R5)
  go_wp2_with fail
  go_fit (unhide EN _)
  rintro r w2 ⟨g, rfl, hg, own, hb⟩
  have BY := hide (ByS.begin (unhide R5) (unhide R6) (unhide HB) own hb)
  have lo := hide (show w.heap.size ≤ g ∧ b5 < g ∧ b6 < g ∧ g < w2.heap.size by
    have := heap_lt (unhide R5); have := heap_lt (unhide R6); have := (unhide HB).size
    obtain ⟨xs, o, _⟩ := own
    have := (o.lt g rfl).2; omega)
  clear q0 q1 q2 q3 hg own hb R5 R6 HB hb6 hb5
  go_upto_region 4 with fail
  generalize w2.alloc (.cells #[.int .i64 a, .int .i64 b, .int .i64 c, .int .i64 d, .slice (some ⟨g, 0, none⟩) M M] 44) = W3 at BY ⊢
  generalize w2.heap.size = b7 at BY lo ⊢
  obtain ⟨q0, q1, q2, q3⟩ := row4 (unhide BY).box
  go_upto_region 5 with fail
  clear q0 q1 q2 q3
  go_loopw [8] (fun y u => ∃ (j : Nat), j ≤ H0 ∧ y = .int .i64 (b + (j : Int)) ∧ Hid (ByS w u b5 b6 b7 g a b c d M (upto f (j * W0)))) (fun y _ => (d - intOf y).toNat)
  case atStart => exact ⟨0, Nat.zero_le _, congrArg (Value.int .i64) (by omega), (unhide BY).congr (fun i _ => by simp [upto])⟩
  case round =>
    clear BY
    obtain ⟨j, hj, rfl, BY⟩ := hrel
    obtain ⟨q0, q1, q2, q3⟩ := row4 (unhide BY).box
    obtain ⟨s0, s1, s2, s3, s4⟩ := row5m (unhide BY).row
    by_cases hjl : j < H0
    · have hji : b + (j : Int) < d := by omega
      have ER1 := hide (unhide ER j hjl g)
      rw [unhide hrp j] at ER1
      go_wp2_with fail
      go_fit (unhide ER1 _)
      rintro r w5 ⟨rfl, hb⟩
      replace BY := hide ((unhide BY).next hb)
      clear hb q0 q1 q2 q3 s0 s1 s2 s3 s4 ER1
      go_upto_region 9 with fail
      go_loopw [34] (fun x u => ∃ (t : Nat), t ≤ W0 ∧ x = .int .i64 (t : Int) ∧ Hid (ByS w u b5 b6 b7 g a b c d M (upto f (j * W0 + t)))) (fun x _ => W0 - (intOf x).toNat)
      case atStart => exact ⟨0, Nat.zero_le _, rfl, BY⟩
      case round =>
        clear BY
        obtain ⟨t, ht, rfl, BY⟩ := hrel
        by_cases htl : t < W0
        · have hti : (t : Int) < (W0 : Int) := by omega
          obtain ⟨q0, q1, q2, q3⟩ := row4 (unhide BY).box
          have EM1 := hide (fun u (hu : Below w.heap.size w u) => unhide EM (a + (t : Int)) (b + (j : Int)) u (fun i hi => (unhide L i hi).next hu))
          have hz := hide (unhide hat j t htl)
          generalize maskP N ln pf even (a + (t : Int)) (b + (j : Int)) = z at hz EM1
          obtain ⟨k, hkk⟩ : ∃ k, Hid (k = j * W0 + t) := ⟨_, rfl⟩
          have hkM : k < M := by
            rw [unhide hkk, unhide hsq]
            calc j * W0 + t < j * W0 + W0 := by omega
              _ = (j + 1) * W0 := by rw [Nat.succ_mul]
              _ ≤ H0 * W0 := Nat.mul_le_mul_right _ hjl
          rw [← unhide hkk] at BY hz
          have v1 : IntKind.i64.wrap (a + (t : Int)) = a + (t : Int) := IntWalk.i64_in _ (by omega)
          go_wp2_with fail
          go_fit (unhide EM1 _ (unhide BY).bel)
          rintro r w6 ⟨rfl, hb⟩
          replace BY := hide ((unhide BY).next hb)
          clear hb q0 q1 q2 q3
          obtain ⟨g0, g1⟩ := (unhide BY).cell hkM
          rw [unhide hkk] at g0 g1
          go_wp2_with fail
          go_roundw
          case rel => exact ⟨t + 1, by omega, by go_num, by rw [← Nat.add_assoc, ← unhide hkk]; exact (unhide BY).fill (unhide lo).1 (unhide lo).2.1 (unhide lo).2.2.1 (.inr (unhide lo).2.2.2) hkM (unhide hz)⟩
          case measure => simp [intOf]; omega
        · have hte : t = W0 := by omega
          subst hte
          have hti : ¬ (t : Int) < (t : Int) := by omega
          go_wp2_with fail
          go_roundw
          case rel => exact ⟨j + 1, by omega, congrArg (Value.int .i64) (by push_cast; omega), by rw [Nat.succ_mul]; exact BY⟩
          case measure => simp [intOf]; omega
    · have hje : j = H0 := by omega
      subst hje
      have hji : ¬ b + (j : Int) < d := by omega
      obtain ⟨e0, e1, e2, e3, e4⟩ := row5m (unhide BY).zero
      obtain ⟨f0, f1, f2, f3, f4⟩ := frozen5 (unhide BY).zero
      go_wp2_with fail
      refine bodyPost_ret (v := .agg #[.int .i64 a, .int .i64 b, .int .i64 c, .int .i64 d, .slice (some ⟨g, 0, none⟩) M M]) (by simp [results, Try.results34, go_sem, e0, e1, e2, e3, e4]) rfl ?_
      rw [← unhide hsq] at BY
      exact maskRes_of (((unhide BY).congr upto_all).res (unhide lo).1 (unhide lz).1 (by have := unhide lo; omega))
end Go.Proofs.Ytmomgbnhildpdab

/-
  FnMaskOf, at the program's own contracts.
-/
namespace Go.Proofs.Ytmomgbnhildpdab
open Go.RowKit

theorem fnMaskOf_walk (a0 : Option Addr) (len0 cap0 : Nat) (z0 : List Int) (w : World) (w0 : IsRow .u8 w a0 len0 cap0 z0) :
    Calls Try.prog 8 #[.slice a0 len0 cap0] w fun e w' => e = .returned (.bool true) ∧ Below w.heap.size w w' :=
  fnMaskOf_of implMaskOf_any implMaskOk_any implBitsAt_any drawMaskOf_any a0 len0 cap0 z0 w w0
end Go.Proofs.Ytmomgbnhildpdab
