/-
  The program's looselyRead (made by looselaw.py).
-/
import Derived.Test.YtkhacppaemilgaaDoorLooseS
namespace Go.Proofs.YtkhacppaemilgaaDoor
open Go.RowKit Go.Shelf
attribute [local go_sem] Oper.semAt_some

def pairsN (ns : List Int) (j : Nat) : List (Int × Int) := (List.range j).map fun j => (listI ns (2 * j), listI ns (2 * j + 1))
theorem pairsN_len (ns : List Int) (j : Nat) : (pairsN ns j).length = j := by simp [pairsN]
theorem pairsN_more (ns : List Int) (j : Nat) : pairsN ns (j + 1) = pairsN ns j ++ [(listI ns (2 * j), listI ns (2 * j + 1))] := by simp [pairsN, List.range_succ]
theorem LR.first {w : World} {s : ByteArray} : LR w ((((((w.alloc (.cells #[.slice none 0 0, .slice none 0 0] 27)).alloc (.cells #[.bool false] 4)).alloc (.cells #[.slice none 0 0, .slice none 0 0] 27)).alloc (.cells #[] 3)).alloc (.cells #[.slice (some ⟨w.heap.size + 1 + 1 + 1, 0, none⟩) 0 0] 24)).alloc (.cells #[.string s] 9)) s none 0 [] none 0 [] (some ⟨w.heap.size + 1 + 1 + 1, 0, none⟩) 0 [] := by
  have n4 := new_row ((((w.alloc (.cells #[.slice none 0 0, .slice none 0 0] 27)).alloc (.cells #[.bool false] 4)).alloc (.cells #[.slice none 0 0, .slice none 0 0] 27)).alloc (.cells #[] 3)) (.cells #[.slice (some ⟨w.heap.size + 1 + 1 + 1, 0, none⟩) 0 0] 24)
  rw [al4_size] at n4
  have n5 := new_row (((((w.alloc (.cells #[.slice none 0 0, .slice none 0 0] 27)).alloc (.cells #[.bool false] 4)).alloc (.cells #[.slice none 0 0, .slice none 0 0] 27)).alloc (.cells #[] 3)).alloc (.cells #[.slice (some ⟨w.heap.size + 1 + 1 + 1, 0, none⟩) 0 0] 24)) (.cells #[.string s] 9)
  rw [World.size_alloc, al4_size] at n5
  refine ⟨old_row _ (old_row _ (al4_0 _ _ _ _ _)), old_row _ (old_row _ (al4_1 _ _ _ _ _)), old_row _ (old_row _ (al4_2 _ _ _ _ _)), old_row _ n4, n5, World.ownsRow_nil _ _ _ _, World.ownsRow_nil _ _ _ _, ?_, .inl rfl⟩
  exact own_of_row (cs := #[]) (old_row _ (old_row _ (al4_3 _ _ _ _ _))) (by omega) rfl (by decide)
theorem ns_cell {w : World} {base : Nat} {a1 : Option Addr} {c1 : Nat} {vs : List Int} (h : w.ownsRow base 3 1 (.slice a1 vs.length c1) vs.length (vs.map Iv)) {k : Nat} (hk : k < vs.length) : ∃ y, listI vs k = y ∧ ∃ gv, a1 = some ⟨gv, 0, none⟩ ∧ w.cell? ⟨gv, k, none⟩ = some (.int .i64 y) := by
  obtain ⟨gv, cv, hv, _, _⟩ := own_at h (by omega)
  cases hv
  refine ⟨_, rfl, gv, rfl, ?_⟩
  rw [h.cellAt k (by omega), List.getElem?_map]
  simp [listI, List.getD_eq_getElem?_getD, List.getElem?_eq_getElem hk, Iv]
theorem wp_normal {P : Program} {c : Code} {Q : Exit → Act → World → Prop} {a : Act} {w : World} (h : c.wpIn Fence.wide 4 P (fun e a w => match e with | .normal => Q .normal a w | _ => False) a w) : c.wpIn Fence.wide 4 P Q a w :=
  wpIn_mono h (fun e a w h => by cases e <;> first | exact h | exact h.elim)
theorem turn_zero {W W' : World} {b : Nat} {row : Option Nat} (h0 : W.heap[b]? = some (.cells #[.slice none 0 0, .slice none 0 0] 27 (0, 0))) (h1 : W.heap[b + 1]? = some (.cells #[.bool false] 4 (0, 0))) (hg : W.grownBy W' row) (hr : ∀ r, row = some r → ∃ o : Obj, W.heap[r]? = some o ∧ o.isCells = false) : W'.heap[b]? = some (.cells #[.slice none 0 0, .slice none 0 0] 27 (0, 0)) ∧ W'.heap[b + 1]? = some (.cells #[.bool false] 4 (0, 0)) := ⟨box_turn h0 hg hr, box_turn h1 hg hr⟩
theorem zeros {W : World} {b : Nat} (h0 : W.heap[b]? = some (.cells #[.slice none 0 0, .slice none 0 0] 27 (0, 0))) (h1 : W.heap[b + 1]? = some (.cells #[.bool false] 4 (0, 0))) :
    (((W.setCell ⟨b, 0, none⟩ (.slice none 0 0)).setCell ⟨b, 1, none⟩ (.slice none 0 0)).setCell ⟨b + 1, 0, none⟩ (.bool false)).heap[b]? = some (.cells #[.slice none 0 0, .slice none 0 0] 27 (0, 0)) ∧ (((W.setCell ⟨b, 0, none⟩ (.slice none 0 0)).setCell ⟨b, 1, none⟩ (.slice none 0 0)).setCell ⟨b + 1, 0, none⟩ (.bool false)).heap[b + 1]? = some (.cells #[.bool false] 4 (0, 0)) :=
  ⟨setc_other (by omega) (set2_1 (set2_0 h0)), set1_0 (setc_other (by omega) (setc_other (by omega) h1))⟩
theorem below_zeros {w W : World} {b : Nat} (h : Below b w W) : Below b w (((W.setCell ⟨b, 0, none⟩ (.slice none 0 0)).setCell ⟨b, 1, none⟩ (.slice none 0 0)).setCell ⟨b + 1, 0, none⟩ (.bool false)) :=
  ((h.setCell (p := ⟨b, 0, none⟩) (Nat.le_refl _) _).setCell (p := ⟨b, 1, none⟩) (Nat.le_refl _) _).setCell (p := ⟨b + 1, 0, none⟩) (by dsimp only; omega) _
theorem keeps_zeros (W : World) (b : Nat) : KeepsOthers W (((W.setCell ⟨b, 0, none⟩ (.slice none 0 0)).setCell ⟨b, 1, none⟩ (.slice none 0 0)).setCell ⟨b + 1, 0, none⟩ (.bool false)) :=
  ((KeepsOthers.setCell _ _ _).trans (KeepsOthers.setCell _ _ _)).trans (KeepsOthers.setCell _ _ _)

set_option maxHeartbeats 16000000 in
set_option maxRecDepth 100000 in
theorem looselyRead_any (s : ByteArray) (hs : s.size ≤ 1048576) (w : World) (T : Tabs w) (hP : Pow w) :
    Calls Tryd.prog 22 #[.string s] w fun r w' => LooseRes w s r w' := by
  obtain ⟨i1, hi1, hz1, hs1, hb1⟩ := info_parts Tryd.info3
  obtain ⟨i2, hi2, hz2, hs2, hb2⟩ := info_parts infoPoint
  refine (callsIn_wide (n := 4)).1 ?_
  refine callsIn_of_wp_marks Tryd.func22 rfl trivial ?_ rfl
  simp only [Tryd.ntmps22, List.size_toArray, List.length_cons, List.length_nil, Nat.reduceAdd, Nat.reduceSub, Array.replicate_succ, Array.replicate_zero, List.push_toArray, List.append_toArray, List.nil_append, List.cons_append]
  gi_wp2_with (refine ⟨trivial, ?_⟩; gi_at_call 47; refine (callsIn_wide.2 (fieldsSeq_any s _)).mono ?_; rintro e w' ⟨rfl, rfl⟩)
  have L0 := @LR.first w s
  have HB0 : Below w.heap.size w ((((((w.alloc (.cells #[.slice none 0 0, .slice none 0 0] 27)).alloc (.cells #[.bool false] 4)).alloc (.cells #[.slice none 0 0, .slice none 0 0] 27)).alloc (.cells #[] 3)).alloc (.cells #[.slice (some ⟨w.heap.size + 1 + 1 + 1, 0, none⟩) 0 0] 24)).alloc (.cells #[.string s] 9)) := below_new _ (below_new _ (al4_below _ _ _ _ _) (Nat.le_refl _)) (Nat.le_refl _)
  generalize ((((((w.alloc (.cells #[.slice none 0 0, .slice none 0 0] 27)).alloc (.cells #[.bool false] 4)).alloc (.cells #[.slice none 0 0, .slice none 0 0] 27)).alloc (.cells #[] 3)).alloc (.cells #[.slice (some ⟨w.heap.size + 1 + 1 + 1, 0, none⟩) 0 0] 24)).alloc (.cells #[.string s] 9)) = W0 at L0 HB0 ⊢
  have hsz0 := L0.size
  refine wpIn_rangeFunc_ownF rfl (by omega) (gf := 64) (lb := #[.pointer (some ⟨w.heap.size + 1 + 1 + 1 + 1 + 1, 0, none⟩)]) rfl trivial (enters_of Tryd.func64 (by kernel_rfl) rfl)
    (fields_stops _ (by omega) w s hs (w.heap.size + 1 + 1 + 1 + 1 + 1) T W0 HB0 L0.r5) (fun h k => ⟨h.1.trans k.1, k.2.trans h.2⟩) (fun W l o o' hl ho hc hw => ⟨belowK_b (w := W0) (by omega) W l o o' hl ho hc hw, World.putObj_heap_other (by omega)⟩) (Below.refl _ _) (fun _ => rfl)
    (fun pre W => (∃ a1 c1 a3 c3, LR w W s a1 c1 (vsOf (wl pre)) none 0 [] a3 c3 (nsOf sg (wl pre)) ∧ (vsOf (wl pre)).length ≤ 24 ∧ (nsOf sg (wl pre)).length ≤ 48) ∧ Below w.heap.size w W)
    (fun c pre W => (c = .ret ∧ Bad sg pre ∧ W.heap[w.heap.size]? = some (.cells #[.slice none 0 0, .slice none 0 0] 27 (0, 0)) ∧ W.heap[w.heap.size + 1]? = some (.cells #[.bool false] 4 (0, 0))) ∧ Below w.heap.size w W)
    (OwnFrom.and (Own.from (fun pre A Z row hs hg hr => by obtain ⟨a1, c1, a3, c3, h, h1, h2⟩ := hs; exact ⟨a1, c1, a3, c3, h.turn hg hr, h1, h2⟩) _) (ownFrom_below (Nat.le_refl _) (by omega)))
    (fun c => OwnFrom.and (Own.from (fun pre A Z row hs hg hr => ⟨hs.1, hs.2.1, turn_zero hs.2.2.1 hs.2.2.2 hg hr⟩) _) (ownFrom_below (Nat.le_refl _) (by omega)))
    ⟨⟨none, 0, some ⟨w.heap.size + 1 + 1 + 1, 0, none⟩, 0, L0, by decide, by decide⟩, HB0⟩
    (fun x => { tmps := #[.string s, undef, .pointer (some ⟨w.heap.size, 0, none⟩), .pointer (some ⟨w.heap.size + 1, 0, none⟩), .pointer (some ⟨w.heap.size + 1 + 1, 0, none⟩), .pointer (some ⟨w.heap.size + 1 + 1 + 1 + 1, 0, none⟩), .string x.1, undef, undef, undef, undef, .agg #[.slice none 0 0, .slice none 0 0], .slice (some ⟨w.heap.size + 1 + 1 + 1, 0, none⟩) 0 0, .string s, .func (.func 64) #[] #[.pointer (some ⟨w.heap.size + 1 + 1 + 1 + 1 + 1, 0, none⟩)], .string x.1, undef, undef, undef, undef, undef, undef, undef, undef, undef, undef, undef, undef, undef, undef, undef, undef, undef, undef, undef, undef, undef, undef, undef, undef, undef, undef, undef, undef, undef, undef, undef, undef, undef, undef, undef, undef, undef, undef, undef, undef, undef, undef, undef, undef, undef, undef, undef, undef, undef, undef, undef, undef, undef], defers := [] }) ?assign ?body ?done ?stop
  case assign =>
    intro l x W K hK
    gi_wp2
    exact hK
  case body =>
    clear L0 HB0 hsz0 W0
    rintro l pre x W ⟨⟨a1, c1, a3, c3, L, hv24, hn48⟩, hB⟩ hlt
    have EV := hide (implVerbOf_any x.1)
    have hve : Hid (vsOf (wl (pre ++ [x])) = vsOf (wl pre) ++ (if verbOf x.1.data.toList = 0 then [] else [(verbOf x.1.data.toList : Int)])) := by unfold Hid; rw [wl_snoc, vsOf_app]; simp [vsOf]
    have hne : Hid (nsOf sg (wl (pre ++ [x])) = nsOf sg (wl pre) ++ (if verbOf x.1.data.toList = 0 then [(sg x.1.data.toList).1] else [])) := by unfold Hid; rw [wl_snoc, nsOf_app]; simp [nsOf]
    have hbw : Hid ((¬ okW sg x.1.data.toList) → Bad sg (pre ++ [x])) := fun h => .inl ⟨_, by rw [wl_snoc]; simp, h⟩
    have hle := verbOf_le x.1.data.toList
    have hbd := sg_bounds x.1.data.toList
    replace L := hide L
    replace hB := hide hB
    clear hlt
    by_cases hv0 : verbOf x.1.data.toList = 0
    · rw [if_pos hv0] at hve hne
      have ES := hide (implReadSigned_any x W (tab_below pow10_at hP (unhide hB)))
      have hnok : Hid ((sg x.1.data.toList).2 = false → Bad sg (pre ++ [x])) := fun h => unhide hbw (fun h2 => by rcases h2 with h2 | h2; exact h2 hv0; rw [h] at h2; cases h2)
      rw [hv0] at EV
      clear hbw hle hv0
      generalize sg x.1.data.toList = zo at hne ES hnok hbd
      obtain ⟨z, ok⟩ := zo
      dsimp only at hne ES hnok hbd
      generalize hgv : vsOf (wl pre) = vs at L hve hv24
      generalize hgn : nsOf sg (wl pre) = ns at L hne hn48
      clear hgv hgn
      rw [List.append_nil] at hve
      generalize x.1 = xb at EV ES ⊢
      cases ok with
      | false =>
        gi_wp2_with (first | (refine ⟨trivial, ?_⟩; gi_at_call 48; refine (CallsIn.inRound l (callsIn_wide.2 (unhide EV _))).mono ?_; rintro e w' ⟨rfl, hw'⟩; have hw2 := hw'.symm; subst hw2) | ((refine ⟨trivial, ?_⟩; gi_at_call 49; refine (CallsIn.inRound l (callsIn_wide.2 (unhide ES))).mono ?_; rintro e W2 ⟨rfl, hb2⟩; have L2 := hide ((unhide L).next hb2); have KO2 := hide (keeps_below hb2); have BB2 := hide (hb2.mono (unhide hB).size); have B2 := hide (below_two (unhide hB) hb2); clear hb2; have m4 := row_at (j := 0) (unhide L2).r4 rfl); obtain ⟨z0, z1⟩ := row2 (unhide L2).r0; obtain ⟨y0, y1⟩ := free2 (unhide L2).r0; have x0 := row_at (j := 0) (unhide L2).r1 rfl; have x1 := Boxed.frozen (unhide L2).r1))
        exact ⟨(unhide KO2).trans (keeps_zeros _ _), ⟨rfl, unhide hnok (by first | rfl | trivial), zeros (unhide L2).r0 (unhide L2).r1⟩, below_zeros (unhide B2)⟩
      | true =>
        by_cases hbig : 48 < ns.length + 1
        · have hbig' : (48 : Int) < (ns.length : Int) + 1 := by omega
          have h24' : ¬ (24 : Int) < (vs.length : Int) := by omega
          gi_wp2_with (first | (refine ⟨trivial, ?_⟩; gi_at_call 48; refine (CallsIn.inRound l (callsIn_wide.2 (unhide EV _))).mono ?_; rintro e w' ⟨rfl, hw'⟩; have hw2 := hw'.symm; subst hw2) | (refine ⟨trivial, ?_⟩; gi_at_call 49; refine (CallsIn.inRound l (callsIn_wide.2 (unhide ES))).mono ?_; rintro e W2 ⟨rfl, hb2⟩; have L2 := hide ((unhide L).next hb2); have KO2 := hide (keeps_below hb2); have BB2 := hide (hb2.mono (unhide hB).size); have B2 := hide (below_two (unhide hB) hb2); clear hb2; have m4 := row_at (j := 0) (unhide L2).r4 rfl) | (gi_at_builtin; go_must (refine wpListIn_append_own_at _ rfl _ _ 24 rfl w.heap.size 3 i1 (.int .i64 0) 1 8 Tryd.underlying24 hi1 hz1 hs1 hb1 rfl (by decide) (.slice a3 ns.length c3) ns.length (ns.map Iv) (by rfl) ((unhide L2).o3.alloc _) ⟨W2.heap.size, 0, none⟩ 1 1 [Iv z] (by rfl) (by rfl) (one_int W2 z 3) (by intro u hu; simp at hu; subst hu; rfl) (by unfold maxLen; omega) (by omega) (by have := (unhide L2).size; simp; omega) ?_); intro v' w1 ho hg _ hat; obtain ⟨a3', c3', rfl⟩ := own_form ho; have P1 := hide ((unhide L2).row4 hg); have e0 := row_at (j := 0) (unhide P1) rfl; have f0 := Boxed.frozen (unhide P1); have P2 := hide ((unhide L2).pushN (z := z) hg ho hat); have KO := hide (keeps_grown (unhide L2).o3 hg ⟨w.heap.size + 1 + 1 + 1 + 1, 0, none⟩ (.slice a3' (ns.length + 1) c3')); have BG := hide (below_grown (unhide L2).o3 hg (by have := (unhide L2).size; omega) ⟨w.heap.size + 1 + 1 + 1 + 1, 0, none⟩ (by dsimp only; omega) (.slice a3' (ns.length + 1) c3')); clear ho hg hat; obtain ⟨g0, g1⟩ := row2 (unhide P2).r2; have g4 := row_at (j := 0) (unhide P2).r4 rfl; obtain ⟨z0, z1⟩ := row2 (unhide P2).r0; obtain ⟨y0, y1⟩ := free2 (unhide P2).r0; have x0 := row_at (j := 0) (unhide P2).r1 rfl; have x1 := Boxed.frozen (unhide P2).r1))
          refine ⟨((unhide KO2).trans (unhide KO)).trans (keeps_zeros _ _), ⟨rfl, .inr (.inr ?_), zeros (unhide P2).r0 (unhide P2).r1⟩, below_zeros ((unhide B2).trans (unhide BG))⟩
          rw [unhide hne]; simp; omega
        · have hbig' : ¬ (48 : Int) < (ns.length : Int) + 1 := by omega
          have h24' : ¬ (24 : Int) < (vs.length : Int) := by omega
          gi_wp2_with (first | (refine ⟨trivial, ?_⟩; gi_at_call 48; refine (CallsIn.inRound l (callsIn_wide.2 (unhide EV _))).mono ?_; rintro e w' ⟨rfl, hw'⟩; have hw2 := hw'.symm; subst hw2) | (refine ⟨trivial, ?_⟩; gi_at_call 49; refine (CallsIn.inRound l (callsIn_wide.2 (unhide ES))).mono ?_; rintro e W2 ⟨rfl, hb2⟩; have L2 := hide ((unhide L).next hb2); have KO2 := hide (keeps_below hb2); have BB2 := hide (hb2.mono (unhide hB).size); have B2 := hide (below_two (unhide hB) hb2); clear hb2; have m4 := row_at (j := 0) (unhide L2).r4 rfl) | (gi_at_builtin; go_must (refine wpListIn_append_own_at _ rfl _ _ 24 rfl w.heap.size 3 i1 (.int .i64 0) 1 8 Tryd.underlying24 hi1 hz1 hs1 hb1 rfl (by decide) (.slice a3 ns.length c3) ns.length (ns.map Iv) (by rfl) ((unhide L2).o3.alloc _) ⟨W2.heap.size, 0, none⟩ 1 1 [Iv z] (by rfl) (by rfl) (one_int W2 z 3) (by intro u hu; simp at hu; subst hu; rfl) (by unfold maxLen; omega) (by omega) (by have := (unhide L2).size; simp; omega) ?_); intro v' w1 ho hg _ hat; obtain ⟨a3', c3', rfl⟩ := own_form ho; have P1 := hide ((unhide L2).row4 hg); have e0 := row_at (j := 0) (unhide P1) rfl; have f0 := Boxed.frozen (unhide P1); have P2 := hide ((unhide L2).pushN (z := z) hg ho hat); have KO := hide (keeps_grown (unhide L2).o3 hg ⟨w.heap.size + 1 + 1 + 1 + 1, 0, none⟩ (.slice a3' (ns.length + 1) c3')); have BG := hide (below_grown (unhide L2).o3 hg (by have := (unhide L2).size; omega) ⟨w.heap.size + 1 + 1 + 1 + 1, 0, none⟩ (by dsimp only; omega) (.slice a3' (ns.length + 1) c3')); clear ho hg hat; obtain ⟨g0, g1⟩ := row2 (unhide P2).r2; have g4 := row_at (j := 0) (unhide P2).r4 rfl; obtain ⟨z0, z1⟩ := row2 (unhide P2).r0; obtain ⟨y0, y1⟩ := free2 (unhide P2).r0; have x0 := row_at (j := 0) (unhide P2).r1 rfl; have x1 := Boxed.frozen (unhide P2).r1))
          refine ⟨(unhide KO2).trans (unhide KO), ⟨(unhide BB2).trans (unhide BG), (unhide P2).r5.trans (unhide L).r5.symm⟩, ⟨a1, c1, a3', c3', ?_, ?_, ?_⟩, (unhide B2).trans (unhide BG)⟩
          · rw [unhide hve, unhide hne]; exact unhide P2
          · rw [unhide hve]; exact hv24
          · rw [unhide hne]; simp; omega
    · rw [if_neg hv0] at hve hne
      clear hbw hbd
      generalize verbOf x.1.data.toList = v at hve EV hle hv0
      have hv0' : ((v : Int) != 0) = true := by simp; omega
      generalize hgv : vsOf (wl pre) = vs at L hve hv24
      generalize hgn : nsOf sg (wl pre) = ns at L hne hn48
      clear hgv hgn
      rw [List.append_nil] at hne
      obtain ⟨q0, q1⟩ := row2 (unhide L).r2
      generalize x.1 = xb at EV ⊢
      by_cases hbig : 24 < vs.length + 1
      · have hbig' : (24 : Int) < (vs.length : Int) + 1 := by omega
        gi_wp2_with (first | (refine ⟨trivial, ?_⟩; gi_at_call 48; refine (CallsIn.inRound l (callsIn_wide.2 (unhide EV _))).mono ?_; rintro e w' ⟨rfl, hw'⟩; have hw2 := hw'.symm; subst hw2) | (gi_at_builtin; go_must (refine wpListIn_append_own_at _ rfl _ _ 24 rfl w.heap.size 3 i1 (.int .i64 0) 1 8 Tryd.underlying24 hi1 hz1 hs1 hb1 rfl (by decide) (.slice a1 vs.length c1) vs.length (vs.map Iv) (by rfl) ((unhide L).o1.alloc _) ⟨W.heap.size, 0, none⟩ 1 1 [Iv (v : Int)] (by rfl) (by rfl) (one_int W (v : Int) 3) (by intro u hu; simp at hu; subst hu; rfl) (by unfold maxLen; omega) (by omega) (by have := (unhide L).size; simp; omega) ?_); intro v' w1 ho hg _ hat; obtain ⟨a1', c1', rfl⟩ := own_form ho; have P1 := hide ((unhide L).row2 (.inl hg)); obtain ⟨e0, e1⟩ := row2 (unhide P1); obtain ⟨f0, f1⟩ := free2 (unhide P1); have P2 := hide ((unhide L).pushV (z := (v : Int)) hg ho hat); have KO := hide (keeps_grown (unhide L).o1 hg ⟨w.heap.size + 1 + 1, 0, none⟩ (.slice a1' (vs.length + 1) c1')); have BG := hide (below_grown (unhide L).o1 hg (by have := (unhide L).size; omega) ⟨w.heap.size + 1 + 1, 0, none⟩ (by dsimp only; omega) (.slice a1' (vs.length + 1) c1')); clear ho hg hat; obtain ⟨g0, g1⟩ := row2 (unhide P2).r2; have g4 := row_at (j := 0) (unhide P2).r4 rfl; obtain ⟨z0, z1⟩ := row2 (unhide P2).r0; obtain ⟨y0, y1⟩ := free2 (unhide P2).r0; have x0 := row_at (j := 0) (unhide P2).r1 rfl; have x1 := Boxed.frozen (unhide P2).r1))
        refine ⟨(unhide KO).trans (keeps_zeros _ _), ⟨rfl, .inr (.inl ?_), zeros (unhide P2).r0 (unhide P2).r1⟩, below_zeros ((unhide hB).trans (unhide BG))⟩
        rw [unhide hve]; simp; omega
      · have hbig' : ¬ (24 : Int) < (vs.length : Int) + 1 := by omega
        have h48' : ¬ (48 : Int) < (ns.length : Int) := by omega
        gi_wp2_with (first | (refine ⟨trivial, ?_⟩; gi_at_call 48; refine (CallsIn.inRound l (callsIn_wide.2 (unhide EV _))).mono ?_; rintro e w' ⟨rfl, hw'⟩; have hw2 := hw'.symm; subst hw2) | (gi_at_builtin; go_must (refine wpListIn_append_own_at _ rfl _ _ 24 rfl w.heap.size 3 i1 (.int .i64 0) 1 8 Tryd.underlying24 hi1 hz1 hs1 hb1 rfl (by decide) (.slice a1 vs.length c1) vs.length (vs.map Iv) (by rfl) ((unhide L).o1.alloc _) ⟨W.heap.size, 0, none⟩ 1 1 [Iv (v : Int)] (by rfl) (by rfl) (one_int W (v : Int) 3) (by intro u hu; simp at hu; subst hu; rfl) (by unfold maxLen; omega) (by omega) (by have := (unhide L).size; simp; omega) ?_); intro v' w1 ho hg _ hat; obtain ⟨a1', c1', rfl⟩ := own_form ho; have P1 := hide ((unhide L).row2 (.inl hg)); obtain ⟨e0, e1⟩ := row2 (unhide P1); obtain ⟨f0, f1⟩ := free2 (unhide P1); have P2 := hide ((unhide L).pushV (z := (v : Int)) hg ho hat); have KO := hide (keeps_grown (unhide L).o1 hg ⟨w.heap.size + 1 + 1, 0, none⟩ (.slice a1' (vs.length + 1) c1')); have BG := hide (below_grown (unhide L).o1 hg (by have := (unhide L).size; omega) ⟨w.heap.size + 1 + 1, 0, none⟩ (by dsimp only; omega) (.slice a1' (vs.length + 1) c1')); clear ho hg hat; obtain ⟨g0, g1⟩ := row2 (unhide P2).r2; have g4 := row_at (j := 0) (unhide P2).r4 rfl; obtain ⟨z0, z1⟩ := row2 (unhide P2).r0; obtain ⟨y0, y1⟩ := free2 (unhide P2).r0; have x0 := row_at (j := 0) (unhide P2).r1 rfl; have x1 := Boxed.frozen (unhide P2).r1))
        refine ⟨unhide KO, ⟨unhide BG, (unhide P2).r5.trans (unhide L).r5.symm⟩, ⟨a1', c1', a3, c3, ?_, ?_, ?_⟩, (unhide hB).trans (unhide BG)⟩
        · rw [unhide hve, unhide hne]; exact unhide P2
        · rw [unhide hve]; simp; omega
        · rw [unhide hne]; exact hn48
  case done =>
    rintro D xs W hD hF ⟨⟨a1, c1, a3, c3, L, h24, h48⟩, hB⟩ hK
    have HQ := hide (loose_same sg_reads hF)
    generalize vsOf (wl xs) = vs at L h24 HQ
    generalize nsOf sg (wl xs) = ns at L h48 HQ
    replace L := hide L
    replace hB := hide hB
    replace hK := hide hK
    gi_wp2
    gi_loopw [10] (fun i u => ∃ (j kk : Nat) (a2 : Option Addr) (c2 : Nat) (qs : List (Int × Int)), j ≤ ns.length / 2 ∧ i = .int .i64 ((kk : Int) + 1) ∧ kk = 2 * j ∧ Hid (qs = pairsN ns j) ∧ LR w u s a1 c1 vs a2 c2 qs a3 c3 ns ∧ Below w.heap.size w u ∧ u.heap[D]? = some (.deferred (some []))) (fun i _ => 60 - (intOf i).toNat)
    case atStart => exact ⟨0, 0, none, 0, [], Nat.zero_le _, rfl, rfl, rfl, unhide L, unhide hB, unhide hK⟩
    case round =>
      clear L hB hK
      obtain ⟨j, kk, a2, c2, qs, hj, rfl, hkk, hqs, hL, hB, hK⟩ := hrel
      have m4 := row_at (j := 0) hL.r4 rfl
      have hql : Hid (qs.length = j) := by unfold Hid; rw [unhide hqs]; exact pairsN_len ns j
      have hq24 : qs.length ≤ 24 := by rw [unhide hql]; omega
      replace hkk := hide hkk
      have L := hide hL
      clear hL
      replace hB := hide hB
      replace hK := hide hK
      by_cases hlt : kk + 1 < ns.length
      · have hlt' : (kk : Int) + 1 < (ns.length : Int) := by omega
        have hlt0 : (kk : Int) < (ns.length : Int) := by omega
        obtain ⟨X, hX, g, rfl, cX⟩ := ns_cell (unhide L).o3 (k := kk) (by omega)
        obtain ⟨Y, hY, g', eg, cY⟩ := ns_cell (unhide L).o3 (k := kk + 1) hlt
        obtain rfl : g = g' := by injection eg with eg; injection eg
        have hpm : Hid (pairsN ns (j + 1) = qs ++ [(X, Y)]) := by unfold Hid; rw [pairsN_more, unhide hqs, ← hX, ← hY, unhide hkk]
        clear eg hX hY
        have hwi : IntKind.i64.wrap ((kk : Int) + 1 - 1) = (kk : Int) := by rw [IntWalk.i64_in _ (by omega)]; omega
        have hwk : IntKind.i64.wrap (kk : Int) = (kk : Int) := IntWalk.i64_in _ (by omega)
        have hw2 : IntKind.i64.wrap ((kk : Int) + 1 + 2) = (kk : Int) + 3 := by rw [IntWalk.i64_in _ (by omega)]; omega
        have hp0 : (0 : Int) ≤ (kk : Int) + 1 := by omega
        gi_wp2
        refine wp_normal (wpIn_wide.2 ?_)
        have L' := hide ((unhide L).next (Below.refl _ _).drew)
        obtain ⟨t0, t1⟩ := row2 (unhide L).r2
        have nt0 := fun o => kn o t0
        have nt1 := fun o => kn o t1
        have nm4 := fun o => kn o m4
        go_region_law (refine step_append_gr rfl _ _ 25 44 rfl w.heap.size i2 (.agg #[.int .i64 0, .int .i64 0]) 2 16 Tryd.underlying25 hi2 hz2 hs2 hb2 rfl (by decide) (.slice a2 qs.length c2) qs.length (ptsV qs) (by rfl) ((unhide L').o2.alloc _) ⟨wr.drew.heap.size, 0, none⟩ 1 1 (ptV (X, Y)) (by rfl) (by rfl) (pt_cells wr.drew X Y _) (pt_one X Y) (by unfold maxLen; omega) (by omega) (by have h9 := (unhide L').size; show w.heap.size ≤ (World.alloc _ _).heap.size; rw [al1_size]; exact Nat.le_succ_of_le (Nat.le_trans (by omega) h9)) ?_; intro v' w8 ho hg; obtain ⟨b2, d2, rfl⟩ := own_form ho; have P1 := hide ((unhide L').row2 (.inr hg)); have P2 := hide ((unhide L').pushP (p := (X, Y)) hg ho); have KO := hide (keeps_grown (unhide L').o2 hg ⟨w.heap.size + 1 + 1, 1, none⟩ (.slice b2 (qs.length + 1) d2)); have BG := hide (below_grown (unhide L').o2 hg (by have := (unhide L').size; omega) ⟨w.heap.size + 1 + 1, 1, none⟩ (by dsimp only; omega) (.slice b2 (qs.length + 1) d2)); clear ho hg; obtain ⟨h0, h1⟩ := row2 (unhide P1); obtain ⟨f0, f1⟩ := free2 (unhide P1))
        all_goals
          clear h0 h1 f0 f1 t0 t1 nt0 nt1 nm4 P1 cX cY m4
          dsimp only
          gi_wp2
          go_roundw
          case rel => exact ⟨j + 1, kk + 2, b2, d2, qs ++ [(X, Y)], by have := unhide hkk; omega, by go_num, by have := unhide hkk; omega, (unhide hpm).symm, unhide P2, ((unhide hB).trans (Below.refl _ _).drew).trans (unhide BG), (unhide KO).same D _ (unhide hK) rfl⟩
          case measure => simp [intOf]; omega
      · have hlt' : ¬ (kk : Int) + 1 < (ns.length : Int) := by omega
        obtain ⟨t0, t1⟩ := row2 (unhide L).r2
        obtain ⟨z0, z1⟩ := row2 (unhide L).r0
        obtain ⟨y0, y1⟩ := free2 (unhide L).r0
        have x0 := row_at (j := 0) (unhide L).r1 rfl
        have x1 := Boxed.frozen (unhide L).r1
        have hjl : Hid (ns.length / 2 = j) := by unfold Hid; have := unhide hkk; omega
        gi_wp2
        have hK' := (((KeepsOthers.setCell wr ⟨w.heap.size, 0, none⟩ (.slice a1 vs.length c1)).trans (KeepsOthers.setCell _ ⟨w.heap.size, 1, none⟩ (.slice a2 qs.length c2))).trans (KeepsOthers.setCell _ ⟨w.heap.size + 1, 0, none⟩ (.bool true))).same D _ (unhide hK) rfl
        refine ⟨by simp, .inl ⟨_, _, rfl, run_takeDeferred hK', ?_⟩⟩
        have hg := grownBy_putObj' (((wr.setCell ⟨w.heap.size, 0, none⟩ (.slice a1 vs.length c1)).setCell ⟨w.heap.size, 1, none⟩ (.slice a2 qs.length c2)).setCell ⟨w.heap.size + 1, 0, none⟩ (.bool true)) D (.deferred none)
        have hr : ∀ r, some D = some r → ∃ o : Obj, (((wr.setCell ⟨w.heap.size, 0, none⟩ (.slice a1 vs.length c1)).setCell ⟨w.heap.size, 1, none⟩ (.slice a2 qs.length c2)).setCell ⟨w.heap.size + 1, 0, none⟩ (.bool true)).heap[r]? = some o ∧ o.isCells = false := fun r e => by cases e; exact ⟨_, hK', rfl⟩
        have k0 := box_turn (setc_other (b := w.heap.size + 1) (j := 0) (v := .bool true) (by omega) (set2_1 (set2_0 (unhide L).r0))) hg hr
        have k1 := box_turn (set1_0 (v := .bool true) (setc_other (b := w.heap.size) (j := 1) (v := .slice a2 qs.length c2) (by omega) (setc_other (b := w.heap.size) (j := 0) (v := .slice a1 vs.length c1) (by omega) (unhide L).r1))) hg hr
        obtain ⟨n0, n1⟩ := row2 k0
        have n2 := row_at (j := 0) k1 rfl
        refine ⟨.tuple #[.agg #[.slice a1 vs.length c1, .slice a2 qs.length c2], .bool true], by simp [results, Tryd.results22, go_sem, n0, n1, n2], ?_⟩
        have w1 := own_setc_ne (g := w.heap.size + 1) (j := 0) (u := .bool true) (own_setc_ne (g := w.heap.size) (j := 1) (u := .slice a2 qs.length c2) (own_setc_ne (g := w.heap.size) (j := 0) (u := .slice a1 vs.length c1) (unhide L).o1 (fun k hk e => box_row (unhide L).o1 (unhide L).r0 (by decide) (by rw [hk, e]))) (fun k hk e => box_row (unhide L).o1 (unhide L).r0 (by decide) (by rw [hk, e]))) (fun k hk e => box_row (unhide L).o1 (unhide L).r1 (by decide) (by rw [hk, e]))
        have w2 := own_setc_ne (g := w.heap.size + 1) (j := 0) (u := .bool true) (own_setc_ne (g := w.heap.size) (j := 1) (u := .slice a2 qs.length c2) (own_setc_ne (g := w.heap.size) (j := 0) (u := .slice a1 vs.length c1) (unhide L).o2 (fun k hk e => box_row (unhide L).o2 (unhide L).r0 (by decide) (by rw [hk, e]))) (fun k hk e => box_row (unhide L).o2 (unhide L).r0 (by decide) (by rw [hk, e]))) (fun k hk e => box_row (unhide L).o2 (unhide L).r1 (by decide) (by rw [hk, e]))
        refine .inl ⟨a1, c1, vs, a2, c2, qs, rfl, ⟨w1.kept hg (row_turn w1 hr), w2.kept hg (row_turn w2 hr), rows_apart (unhide L).o1 (unhide L).o2 (by decide)⟩, ?_, h24, hq24, ?_⟩
        · have e : qs = pairsOf ns := by rw [unhide hqs, ← unhide hjl]; rfl
          rw [e]; exact unhide HQ
        · exact ((((unhide hB).setCell (p := ⟨w.heap.size, 0, none⟩) (Nat.le_refl _) _).setCell (p := ⟨w.heap.size, 1, none⟩) (Nat.le_refl _) _).setCell (p := ⟨w.heap.size + 1, 0, none⟩) (by dsimp only; omega) _).trans (belowK_b (w := W0) (by omega) _ D _ _ hD hK' rfl rfl)
  case stop =>
    rintro D c pre W hD hpart ⟨⟨rfl, hbad, h0, h1⟩, hB⟩ hK
    gi_wp2
    refine ⟨by simp, .inl ⟨_, _, rfl, run_takeDeferred hK, ?_⟩⟩
    have hg := grownBy_putObj' W D (.deferred none)
    have hr : ∀ r, some D = some r → ∃ o : Obj, W.heap[r]? = some o ∧ o.isCells = false := fun r e => by cases e; exact ⟨_, hK, rfl⟩
    obtain ⟨k0, k1⟩ := turn_zero h0 h1 hg hr
    obtain ⟨z0, z1⟩ := row2 k0
    have x0 := row_at (j := 0) k1 rfl
    refine ⟨.tuple #[.agg #[.slice none 0 0, .slice none 0 0], .bool false], by simp [results, Tryd.results22, go_sem, z0, z1, x0], ?_⟩
    exact .inr ⟨rfl, loose_bad sg_reads hpart hbad, hB.trans (belowK_b (w := W0) (by omega) W D _ _ hD hK rfl rfl)⟩
end Go.Proofs.YtkhacppaemilgaaDoor
