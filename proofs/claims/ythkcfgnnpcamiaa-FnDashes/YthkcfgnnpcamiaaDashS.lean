/-
  The specification's DashOf.
-/
import Derived.Test.YthkcfgnnpcamiaaDashL
import Derived.Test.YthkcfgnnpcamiaaLinesL
namespace Go.Proofs.Ythkcfgnnpcamiaa
open Go.RowKit
set_option linter.unusedVariables false

/-- The places of those that count, among the first k. -/
def ixN (L : List (List Pt)) (k : Nat) : List Nat := (List.range k).filter fun i => bigL (L.getD i [])
def pickV (vs : List Value) (L : List (List Pt)) (k : Nat) : List Value := (ixN L k).map fun i => vs.getD i (.slice none 0 0)
def pickL (L : List (List Pt)) (k : Nat) : List (List Pt) := (ixN L k).map fun i => L.getD i []
theorem ixN_more (L : List (List Pt)) (k : Nat) : ixN L (k + 1) = if bigL (L.getD k []) = true then ixN L k ++ [k] else ixN L k := by
  unfold ixN
  rw [List.range_succ, List.filter_append]
  by_cases h : bigL (L.getD k []) = true
  · rw [if_pos h, List.filter_cons_of_pos (p := fun i => bigL (L.getD i [])) (a := k) (l := []) h]; rfl
  · rw [if_neg h, List.filter_cons_of_neg (p := fun i => bigL (L.getD i [])) (a := k) (l := []) h]; simp
theorem pickL_take (L : List (List Pt)) : ∀ k, k ≤ L.length → pickL L k = (L.take k).filter bigL
  | 0, _ => by simp [pickL, ixN]
  | k + 1, h => by
    have ih := pickL_take L k (by omega)
    have e : L.take (k + 1) = L.take k ++ [L.getD k []] := by rw [List.take_succ_eq_append_getElem (by omega), List.getD_eq_getElem?_getD, List.getElem?_eq_getElem (by omega)]; rfl
    rw [e, List.filter_append]
    unfold pickL at ih ⊢
    rw [ixN_more]
    by_cases hb : bigL (L.getD k []) = true
    · rw [if_pos hb, List.map_append, ih, List.filter_cons_of_pos hb]; rfl
    · rw [if_neg hb, ih, List.filter_cons_of_neg hb]; simp
theorem pickL_all (L : List (List Pt)) : pickL L L.length = L.filter bigL := by rw [pickL_take L _ (Nat.le_refl _), List.take_length]
theorem pick_len (vs : List Value) (L : List (List Pt)) (k : Nat) : (pickV vs L k).length = (pickL L k).length := by simp [pickV, pickL]
theorem Lines.pick {u : World} {base : Nat} {vs : List Value} {L : List (List Pt)} (h : Lines u base vs L) (k : Nat) (hk : k ≤ L.length) : Lines u base (pickV vs L k) (pickL L k) := by
  have hm : ∀ (i j : Nat), (ixN L k)[i]? = some j → j < k := by
    intro i j hi
    have := List.mem_of_getElem? hi
    have := (List.mem_filter.1 this).1
    exact List.mem_range.1 this
  have hs : (ixN L k).Pairwise (· < ·) := List.Pairwise.filter _ List.pairwise_lt_range
  have gv : ∀ (i : Nat) v, (pickV vs L k)[i]? = some v → ∃ j, (ixN L k)[i]? = some j ∧ vs[j]? = some v := by
    intro i v hv
    unfold pickV at hv
    rw [List.getElem?_map] at hv
    cases hj : (ixN L k)[i]? with
    | none => rw [hj] at hv; cases hv
    | some j =>
      rw [hj] at hv
      have hlt : j < vs.length := by rw [h.len]; have := hm i j hj; omega
      refine ⟨j, rfl, ?_⟩
      simp only [Option.map_some, Option.some.injEq] at hv
      rw [← hv, List.getD_eq_getElem?_getD, List.getElem?_eq_getElem hlt]; rfl
  refine ⟨pick_len vs L k, ?_, ?_⟩
  · intro i v l h1 h2
    obtain ⟨j, e1, e2⟩ := gv i v h1
    unfold pickL at h2
    rw [List.getElem?_map, e1] at h2
    have hlt : j < L.length := by have := hm i j e1; omega
    refine h.own j v l e2 ?_
    simp only [Option.map_some, Option.some.injEq] at h2
    rw [← h2, List.getD_eq_getElem?_getD, List.getElem?_eq_getElem hlt]; rfl
  · intro i j v v' hij h1 h2
    obtain ⟨a, e1, e2⟩ := gv i v h1
    obtain ⟨b, f1, f2⟩ := gv j v' h2
    have hab : a < b := by
      obtain ⟨hi', ea⟩ := List.getElem?_eq_some_iff.1 e1
      obtain ⟨hj', eb⟩ := List.getElem?_eq_some_iff.1 f1
      have := List.pairwise_iff_getElem.1 hs i j hi' hj' hij
      rw [ea, eb] at this
      exact this
    exact h.up a b v v' hab e2 f2

set_option maxHeartbeats 16000000 in
set_option maxRecDepth 100000 in
theorem specDashOf_any (pf : Nat → Pt) (la : Option Addr) (n lc : Nat) (ds : Nat → Int) (da : Option Addr) (m dc : Nat) (ph : Int) (hn : n ≤ 349525) (hm : m ≤ 1048576) (w : World) (P : ∀ i, i < n → PtArg w la i (pf i)) (V : ∀ i, i < m → IntAt w da i (ds i)) :
    Calls Try.prog 16 #[.slice la n lc, .slice da m dc, .int .i64 ph] w fun r w' => ∃ v, r = .returned v ∧ LinesV w' w.heap.size v (dashL n pf m ds ph) ∧ Below w.heap.size w w' := by
  obtain ⟨i1, hi1, hz1, hs1, hb1⟩ := info_parts infoPoint
  obtain ⟨i2, hi2, hz2, hs2, hb2⟩ := info_parts infoPts
  have EO := hide (specDashOk_any ds da m dc hm w V)
  have EI := hide (l01In_any ph 0 20000)
  have hgo : Hid (dashGo n pf m ds ph ↔ dashOkB m ds = true ∧ inB ph 0 20000 = true ∧ 2 ≤ n ∧ lineOk n pf) := Iff.rfl
  have hdk : Hid (dashOkB m ds = true → m ≠ 0 → Dsh m ds) := dash_dsh
  have hib : Hid (inB ph 0 20000 = true → 0 ≤ ph ∧ ph ≤ 20000) := fun h => inB_true.1 h
  generalize dashOkB m ds = ok at EO hgo hdk
  generalize inB ph 0 20000 = ib at EI hgo hib
  replace P := hide P
  replace V := hide V
  cases ok with
  | false =>
    rw [dashL_no (fun h => absurd ((unhide hgo).1 h).1 (by decide))]
    go_enter Try.func16, Try.ntmps16
    go_wp2_with fail
    go_fit (unhide EO)
    rintro r w1 ⟨rfl, rfl⟩
    go_wp2_with fail
    go_ret
    exact ⟨_, rfl, empty_lines (Below.refl _ _), al1_below _ _⟩
  | true =>
  cases ib with
  | false =>
    rw [dashL_no (fun h => absurd ((unhide hgo).1 h).2.1 (by decide))]
    go_enter Try.func16, Try.ntmps16
    go_wp2_with fail
    go_fit (unhide EO)
    rintro r w1 ⟨rfl, rfl⟩
    go_wp2_with fail
    go_fit (unhide EI _)
    rintro r w2 ⟨rfl, rfl⟩
    go_wp2_with fail
    go_ret
    exact ⟨_, rfl, empty_lines (Below.refl _ _), al1_below _ _⟩
  | true =>
  by_cases h2 : 2 ≤ n
  · have h2i : ¬ (n : Int) < 2 := by omega
    have hph := unhide hib rfl
    go_enter Try.func16, Try.ntmps16
    go_wp2_with fail
    go_fit (unhide EO)
    rintro r w1 ⟨rfl, rfl⟩
    go_wp2_with fail
    go_fit (unhide EI _)
    rintro r w2 ⟨rfl, rfl⟩
    go_wp2_with fail
    go_loopw [7] (fun i u => ∃ q : Nat, q ≤ n ∧ i = .int .i64 q ∧ Hid (∀ j, j < q → pointOkB (pf j).1 (pf j).2 = true) ∧ Hid (Below w2.heap.size w2 u)) (fun i _ => n - (intOf i).toNat)
    case atStart => exact ⟨0, Nat.zero_le _, rfl, fun j hj => absurd hj (by omega), Below.refl _ _⟩
    case round =>
      obtain ⟨q, hq, rfl, HP, hb⟩ := hrel
      by_cases hlt : q < n
      · have HZ := (unhide P q hlt).next (unhide hb)
        obtain ⟨z, hz⟩ : ∃ z, Hid (pf q = z) := ⟨_, rfl⟩
        rw [unhide hz] at HZ
        obtain ⟨x0, y0⟩ := z
        obtain ⟨s, o, rfl, g0, g1⟩ := HZ
        dsimp only at g0 g1
        have E := hide (specPointOk_any x0 y0)
        obtain ⟨pk, hpk⟩ : ∃ b, Hid (b = pointOkB x0 y0) := ⟨_, rfl⟩
        rw [← unhide hpk] at E
        go_wp2_with fail
        go_fit (unhide E _)
        rintro r w3 ⟨rfl, hb3⟩
        replace hb := hide (below_two (unhide hb) hb3)
        clear hb3 g0 g1
        cases pk with
        | true =>
          go_wp2_with fail
          go_roundw
          case rel => exact ⟨q + 1, by omega, by go_num, pok_more (unhide HP) (by rw [unhide hz]; exact (unhide hpk).symm), hb⟩
          case measure => simp [intOf]; omega
        | false =>
          go_wp2_with fail
          go_ret
          refine ⟨_, rfl, ?_, below_new _ (unhide hb) (Nat.le_refl _)⟩
          rw [dashL_no (fun h => by have h9 := ((unhide hgo).1 h).2.2.2 q hlt; rw [unhide hz] at h9; dsimp only at h9; rw [← unhide hpk] at h9; cases h9)]
          exact empty_lines (unhide hb)
      · have hqe : q = n := by omega
        subst hqe
        have hG := hide ((unhide hgo).2 ⟨by first | rfl | trivial, by first | rfl | trivial, h2, unhide HP⟩)
        have HPn := hide (fun i hi => (unhide P i hi).next (unhide hb))
        have HVn := hide (fun i hi => (unhide V i hi).next (unhide hb))
        obtain ⟨s0, o0, rfl, _, _⟩ := unhide P 0 (by omega)
        by_cases hm0 : m = 0
        · subst hm0
          have hD : Hid (dashL q pf 0 ds ph = [listN pf q]) := dashL_none (unhide hG) rfl
          have oE := hide (show (wr.alloc (.cells #[] 29)).ownsRow wr.heap.size 29 2 (.slice (some ⟨wr.heap.size, 0, none⟩) 0 0) 0 [] from World.ownsRow_lit wr #[] 0 (Nat.le_refl _) (by decide) rfl)
          have VE := hide (pts_cells (fun i hi => (unhide HPn i hi).next (al1_below wr (.cells #[] 29))))
          go_wp2_with (at_builtin; go_must (refine wpList_append_own (wr.alloc (.cells #[] 29)) rfl _ _ 30 rfl wr.heap.size 29 i1 (.agg #[.int .i64 0, .int .i64 0]) 2 16 Try.underlying30 hi1 hz1 hs1 hb1 rfl (by decide) _ 0 [] (by rfl) (unhide oE) ⟨s0, o0, none⟩ q lc (ptsV (listN pf q)) (by rfl) (by rw [ptsV_length, listN_len]) (unhide VE) (ptsV_one _) (by unfold maxLen; omega) (by omega) (by simp) ?_); intro v1 w3 ho hg _; rw [Nat.zero_add, List.nil_append] at ho; obtain ⟨av, cv, rfl⟩ := own_form ho; have O1 := hide ho; have G3 := hide hg; clear ho hg)
          replace G3 := hide (below_of_grown (B := wr.heap.size) (unhide G3) (by simp) (fun k hk => by simp [Value.ownBlock] at hk; omega))
          replace G3 := hide (below_two (unhide hb) ((al1_below wr (.cells #[] 29)).trans (unhide G3)))
          replace O1 := hide (own_low (unhide O1) (unhide hb).size)
          go_ret
          exact ⟨_, rfl, by rw [unhide hD]; exact one_line (unhide G3) (unhide O1), below_new _ (unhide G3) (Nat.le_refl _)⟩
        · have hmi : ((m : Int) == 0) = false := beq_eq_false_iff_ne.2 (by omega)
          have hd := unhide hdk (by first | rfl | trivial) hm0
          have hD : Hid (dashL q pf m ds ph = (lastS (lineS m ds pf (startS m ds ph (pf 0)) (q - 1))).filter bigL) := dashL_yes (unhide hG) hm0
          have EL := hide (specLine_any pf (some ⟨s0, o0, none⟩) q lc ds da m dc ph hn h2 hd hph wr (unhide HPn) (unhide HVn))
          have hlen := last_len (walk_fine hd hph.1 pf (q - 1))
          generalize lastS (lineS m ds pf (startS m ds ph (pf 0)) (q - 1)) = L at EL hD hlen
          obtain ⟨hl1, hl2⟩ := hlen
          have hLn : L.length ≤ 4200000000000 := by omega
          have hL1 : Hid (∀ l ∈ L, l.length ≤ 349530) := fun l hl => by have := hl2 l hl; omega
          clear hl1 hl2 hd
          go_wp2_with fail
          go_fit (unhide EL)
          rintro r w4 ⟨v, rfl, ⟨vs, ov, lv⟩, hb4⟩
          obtain ⟨av, cv, e1⟩ := own_form ov
          subst e1
          have HB4 := hide (below_two (unhide hb) hb4)
          have hsz := hide (unhide hb).size
          replace ov := hide ov
          replace lv := hide lv
          clear hb4 EL
          go_upto_region 12 with fail
          have OE := hide (show (w4.alloc (.cells #[] 30)).ownsRow w4.heap.size 30 1 (.slice (some ⟨w4.heap.size, 0, none⟩) 0 0) 0 [] from World.ownsRow_lit w4 #[] 0 (Nat.le_refl _) (by decide) rfl)
          have BE := hide (al1_below w4 (.cells #[] 30))
          generalize w4.alloc (.cells #[] 30) = W4 at OE BE ⊢
          go_wp2_with fail
          go_loopw [9, 10] (fun v i u => ∃ k : Nat, k ≤ L.length ∧ i = .int .i64 k ∧ Hid (Below w4.heap.size w4 u) ∧ Hid (u.ownsRow w4.heap.size 30 1 v (pickL L k).length (pickV vs L k))) (fun _ i _ => L.length - (intOf i).toNat)
          case atStart => exact ⟨0, Nat.zero_le _, rfl, BE, OE⟩
          case round =>
            clear OE BE
            obtain ⟨k, hk, rfl, BE, OE⟩ := hrel
            obtain ⟨ao, co, e1⟩ := own_form (unhide OE)
            subst e1
            by_cases hkl : k < L.length
            · obtain ⟨g, _, e1, _, _⟩ := own_at (unhide ov) (by omega)
              cases e1
              obtain ⟨x, cx, hvk, g0, ox⟩ := line_at (unhide ov) (unhide lv) rfl hkl
              have g1 := kc (unhide BE) g0
              have hlk := unhide hL1 _ (List.getElem_mem hkl)
              have hki : (k : Int) < (L.length : Int) := by omega
              have hpk : (pickL L k).length ≤ 4200000000000 := by
                rw [pickL_take L k hk]
                have h1 := List.length_filter_le bigL (L.take k)
                rw [List.length_take] at h1
                omega
              have hgl : L.getD k [] = L[k] := by rw [List.getD_eq_getElem?_getD, List.getElem?_eq_getElem hkl]; rfl
              have hgv : vs.getD k (.slice none 0 0) = .slice x L[k].length cx := by rw [List.getD_eq_getElem?_getD, hvk]; rfl
              have hix := ixN_more L k
              rw [hgl] at hix
              have ng1 := fun o => kn o g1
              by_cases hbig : 1 < L[k].length
              · rw [if_pos (show bigL L[k] = true from decide_eq_true hbig)] at hix
                have hV : Hid (pickV vs L (k + 1) = pickV vs L k ++ [.slice x L[k].length cx]) := by unfold Hid pickV; rw [hix, List.map_append]; simp only [List.map_cons, List.map_nil]; rw [hgv]
                have hLL : Hid ((pickL L (k + 1)).length = (pickL L k).length + 1) := by unfold Hid pickL; rw [hix]; simp
                have hbi : (1 : Int) < (L[k].length : Int) := by omega
                clear hix hgl hgv ox hvk g0
                generalize L[k].length = lk at *
                generalize hPL : (pickL L k).length = np at *
                replace hPL := hide hPL
                go_wp2_with (at_builtin; go_must (refine wpList_append_ll wr rfl _ _ 26 rfl w4.heap.size i2 (.slice none 0 0) 24 Try.underlying26 hi2 hz2 hs2 hb2 rfl _ np (pickV vs L k) (by rfl) (unhide OE) (.slice x lk cx) rfl 1 (by rfl) (by unfold maxLen; omega) (by omega) (unhide BE).size ?_); intro v7 w7 ho hg hat; have O7 := hide ho; have B7 := hide (((unhide BE).alloc (unhide BE).size (.cells #[.slice x lk cx] 30)).grown hg (by simp; have := (unhide BE).size; omega) (fun k hk => ((unhide OE).lt k hk).1)); obtain ⟨a7, n7, c7, rfl⟩ := own_form3 ho; clear ho hg hat)
                go_roundw
                case rel => exact ⟨k + 1, by omega, by go_num, B7, by unfold Hid; rw [unhide hLL, unhide hV]; exact unhide O7⟩
                case measure => simp [intOf]; omega
              · rw [if_neg (show ¬ bigL L[k] = true from fun h => hbig (of_decide_eq_true h))] at hix
                have hV : Hid (pickV vs L (k + 1) = pickV vs L k) := by unfold Hid pickV; rw [hix]
                have hLL : Hid (pickL L (k + 1) = pickL L k) := by unfold Hid pickL; rw [hix]
                have hbi : ¬ (1 : Int) < (L[k].length : Int) := by omega
                clear hix hgl hgv ox hvk g0
                generalize L[k].length = lk at *
                go_wp2_with fail
                go_roundw
                case rel => exact ⟨k + 1, by omega, by go_num, BE, by unfold Hid; rw [unhide hLL, unhide hV]; exact unhide OE⟩
                case measure => simp [intOf]; omega
            · have hke : k = L.length := by omega
              subst hke
              have hf : Hid (LinesV wr w2.heap.size (.slice ao (pickL L L.length).length co) (dashL q pf m ds ph)) := by
                unfold Hid
                rw [unhide hD, ← pickL_all]
                have hs2' := (unhide HB4).size
                refine ⟨pickV vs L L.length, own_low (unhide OE) hs2', ?_⟩
                exact ((unhide lv).low (unhide hsz)).pick L.length (Nat.le_refl _) |>.next (unhide BE)
              go_wp2_with fail
              go_ret
              exact ⟨_, rfl, unhide hf, below_two (unhide HB4) (unhide BE)⟩
  · have h2i : (n : Int) < 2 := by omega
    rw [dashL_no (fun h => h2 ((unhide hgo).1 h).2.2.1)]
    go_enter Try.func16, Try.ntmps16
    go_wp2_with fail
    go_fit (unhide EO)
    rintro r w1 ⟨rfl, rfl⟩
    go_wp2_with fail
    go_fit (unhide EI _)
    rintro r w2 ⟨rfl, rfl⟩
    go_wp2_with fail
    go_ret
    exact ⟨_, rfl, empty_lines (Below.refl _ _), al1_below _ _⟩
end Go.Proofs.Ythkcfgnnpcamiaa
