/-
  ApplyA · MoveS · MoveU · AllR · PathI · MoveI · MoveV · CurveM · LinesM · FlatK · CurveA · CurveI · FlatI · FlatC · LinesK: texts of one claim, in one.
-/
import Derived.Test.YtfnbemmlafmjlaaGreatFnExactClipBitsM1
import Derived.Deep.RegionLaw
import Derived.Laws.AppendOwnNone
import Derived.Deep.RegionHeld3
import Derived.Deep.DeepCutAuto
import Derived.Deep.DeepFit
import Derived.Deep.AppendLies

/-
  What Apply answers at any argument, on both sides.
-/
namespace Go.Proofs.YtfnbemmlafmjlaaGreat
open Go.RowKit

/-- What Apply answers. -/
def applyX (a b c d e f x y : Int) : Int := bif (matOkB a b c d e f && pointOkB x y) then moveI a x c y e else 0
def applyY (a b c d e f x y : Int) : Int := bif (matOkB a b c d e f && pointOkB x y) then moveI b x d y f else 0

theorem specApply_any (a b c d e f x y : Int) (w : World) :
    Calls Tryz.prog 81 #[.agg #[.int .i64 a, .int .i64 b, .int .i64 c, .int .i64 d, .int .i64 e, .int .i64 f], .agg #[.int .i64 x, .int .i64 y]] w fun r w' => r = .returned (.agg #[.int .i64 (applyX a b c d e f x y), .int .i64 (applyY a b c d e f x y)]) ∧ Below w.heap.size w w' := by
  unfold applyX applyY
  cases h : (matOkB a b c d e f && pointOkB x y)
  · exact specApply_no a b c d e f x y h w
  · rw [Bool.and_eq_true] at h
    exact specApply_yes a b c d e f x y h.1 h.2 w

theorem implApply_any (a b c d e f x y : Int) (w : World) :
    Calls Tryz.prog 163 #[.agg #[.int .i64 a, .int .i64 b, .int .i64 c, .int .i64 d, .int .i64 e, .int .i64 f], .agg #[.int .i64 x, .int .i64 y]] w fun r w' => r = .returned (.agg #[.int .i64 (applyX a b c d e f x y), .int .i64 (applyY a b c d e f x y)]) ∧ Below w.heap.size w w' := by
  unfold applyX applyY
  cases h : (matOkB a b c d e f && pointOkB x y)
  · exact implApply_no a b c d e f x y h w
  · rw [Bool.and_eq_true] at h
    exact implApply_yes a b c d e f x y h.1 h.2 w
end Go.Proofs.YtfnbemmlafmjlaaGreat

/-
  The specification's MovePath.
-/
namespace Go.Proofs.YtfnbemmlafmjlaaGreat
open Go.RowKit

def mvP (A B C D E F : Int) (p : Int × Int) : Int × Int := (applyX A B C D E F p.1 p.2, applyY A B C D E F p.1 p.2)
def okN (ok : Bool) (n : Nat) : Nat := bif ok then n else 0

end Go.Proofs.YtfnbemmlafmjlaaGreat

/-
  MovePath where the verbs may be nil: the specification's. (By moveu.py.)
-/
namespace Go.Proofs.YtfnbemmlafmjlaaGreat
open Go.RowKit

/-- A list of numbers, nil or not, onto an own list without anything. -/
theorem wpList_append_vs {ops : Array Oper} {rest : List Oper} {o : Oper} {b : Act} {Q : Exit → Act → World → Prop} (w : World) (hgd : o.guard = none) (s x : Operand) (ho : o.op = .call { callee := .builtin .append, args := #[s, x], argTypes := #[28, 28] })
    (base : Nat) (i : TypeInfo) (hi : Tryz.prog.info? 3 = some i) (hz : i.zero = some (.int .i64 0)) (hsize : i.size = 1) (hby : i.bytes = 8) (v : Value) (hs : b.eval s = v) (hown : w.ownsRow base 3 1 v 0 [])
    (vf : Nat → Int) (a : Option Addr) (n c : Nat) (ha : a = none → n = 0 ∧ c = 0) (hn : n ≤ 1048576) (hx : b.eval x = .slice a n c) (V : ∀ i, i < n → IntAt w a i (vf i)) (hbase : base ≤ w.heap.size)
    (h : ∀ v' w', w'.ownsRow base 3 1 v' n ((listN vf n).map Iv) → w.grownBy w' v.ownBlock → wpList Tryz.prog ops Q rest (b.put o.dst v') w') : wpList Tryz.prog ops Q (o :: rest) b w := by
  cases a with
  | none =>
    obtain ⟨rfl, rfl⟩ := ha rfl
    exact wpList_append_own_none hgd s x 28 ho base 3 i 1 Tryz.underlying28 hi v 0 [] hs hown hx (h v w hown (World.grownBy.refl _ _))
  | some ad =>
    refine wpList_append_own w hgd s x 28 ho base 3 i (.int .i64 0) 1 8 Tryz.underlying28 hi hz hsize hby rfl (by decide) v 0 [] hs hown ad n c ((listN vf n).map Iv) hx (by simp [listN]) ?_ (Iv_one _) (by unfold maxLen; omega) (by omega) hbase (fun v' w' h1 h2 _ => ?_)
    · intro j u hj
      have hlt : j < n := by have := (List.getElem?_eq_some_iff.1 hj).1; simpa [listN] using this
      obtain ⟨s', o', e, hc⟩ := V j hlt
      cases e
      exact int_cells V j u hj
    · rw [Nat.zero_add, List.nil_append] at h1
      exact h v' w' h1 h2

set_option maxHeartbeats 8000000 in
set_option maxRecDepth 100000 in
theorem specMovePath_gen (A B C D E F : Int) (vf : Nat → Int) (pf : Nat → Int × Int) (a b : Option Addr) (n c m d : Nat) (ha : a = none → n = 0 ∧ c = 0) (hn : n ≤ 1048576) (hm : m ≤ 1048576) (w : World)
    (x : Bool) (hx : x = true ↔ Right vf n pf m) (V : ∀ i, i < n → IntAt w a i (vf i)) (P : ∀ i, i < m → PtArg w b i (pf i)) :
    Calls Tryz.prog 46 #[.agg #[.int .i64 A, .int .i64 B, .int .i64 C, .int .i64 D, .int .i64 E, .int .i64 F], .agg #[.slice a n c, .slice b m d]] w fun r w' =>
      PathRes w r w' (okN (x && matOkB A B C D E F) n) (okN (x && matOkB A B C D E F) m) vf (fun i => mvP A B C D E F (pf i)) := by
  obtain ⟨i1, hi1, hz1, hs1, hb1⟩ := info_parts Tryz.info3
  obtain ⟨i2, hi2, hz2, hs2, hb2⟩ := info_parts infoPoint
  have EO := hide (fun u V P => specPathOk_any vf pf a b n c m d hn hm u x hx V P)
  have EM := hide (specMatOk_any A B C D E F)
  have EA := hide (fun x y => specApply_any A B C D E F x y)
  generalize matOkB A B C D E F = y at EM ⊢
  replace V := hide V
  replace P := hide P
  replace hx := hide hx
  go_enter Tryz.func46, Tryz.ntmps46
  go_wp2_with fail
  obtain ⟨W, hW⟩ : ∃ W, W = ((w.alloc (.cells #[.int .i64 A, .int .i64 B, .int .i64 C, .int .i64 D, .int .i64 E, .int .i64 F] 31)).alloc (.cells #[.slice a n c, .slice b m d] 34)).alloc (.cells #[.slice none 0 0, .slice none 0 0] 34) := ⟨_, rfl⟩
  have HB := hide (show Below w.heap.size w W by rw [hW]; exact al3_below _ _ _ _)
  have R0 := hide (show W.heap[w.heap.size]? = some (.cells #[.int .i64 A, .int .i64 B, .int .i64 C, .int .i64 D, .int .i64 E, .int .i64 F] 31 (0, 0)) by rw [hW]; exact al3_0 _ _ _ _)
  have R1 := hide (show W.heap[w.heap.size + 1]? = some (.cells #[.slice a n c, .slice b m d] 34 (0, 0)) by rw [hW]; exact al3_1 _ _ _ _)
  have R2 := hide (show W.heap[w.heap.size + 1 + 1]? = some (.cells #[.slice none 0 0, .slice none 0 0] 34 (0, 0)) by rw [hW]; exact al3_2 _ _ _ _)
  rw [← hW]
  clear hW
  go_fit (unhide EO _ (fun i hi => (unhide V i hi).next (unhide HB)) (fun i hi => (unhide P i hi).next (unhide HB)))
  rintro r w1 ⟨rfl, hb⟩
  replace HB := hide (below_two (unhide HB) hb)
  replace R0 := hide (row_next hb (unhide R0))
  replace R1 := hide (row_next hb (unhide R1))
  replace R2 := hide (row_next hb (unhide R2))
  clear hb EO
  cases x with
  | false =>
    obtain ⟨f0, f1⟩ := free2 (unhide R2)
    obtain ⟨c0, c1⟩ := row2 (unhide R2)
    go_wp2_with fail
    refine bodyPost_ret (v := .agg #[.slice none 0 0, .slice none 0 0]) (by simp [results, Tryz.results46, go_sem, c0, c1]) rfl ?_
    exact res_none (below_put2 (unhide HB) (by omega) _ _)
  | true =>
  obtain ⟨q0, q1, q2, q3, q4, q5⟩ := row6 (unhide R0)
  go_wp2_with fail
  go_fit (unhide EM _)
  rintro r w2 ⟨rfl, hb⟩
  replace HB := hide (below_two (unhide HB) hb)
  replace R0 := hide (row_next hb (unhide R0))
  replace R1 := hide (row_next hb (unhide R1))
  replace R2 := hide (row_next hb (unhide R2))
  clear hb EM q0 q1 q2 q3 q4 q5
  cases y with
  | false =>
    obtain ⟨f0, f1⟩ := free2 (unhide R2)
    obtain ⟨c0, c1⟩ := row2 (unhide R2)
    go_wp2_with fail
    refine bodyPost_ret (v := .agg #[.slice none 0 0, .slice none 0 0]) (by simp [results, Tryz.results46, go_sem, c0, c1]) rfl ?_
    exact res_none (below_put2 (unhide HB) (by omega) _ _)
  | true =>
  obtain ⟨c0, c1⟩ := row2 (old_row (.cells #[] 3) (unhide R1))
  have oE := hide (show (w2.alloc (.cells #[] 3)).ownsRow w2.heap.size 3 1 (.slice (some ⟨w2.heap.size, 0, none⟩) 0 0) 0 [] from World.ownsRow_lit w2 #[] 0 (Nat.le_refl _) (by decide) rfl)
  have VE := hide (fun i hi => ((unhide V i hi).next (unhide HB)).next (al1_below w2 (.cells #[] 3)))
  go_wp2_with (at_builtin; go_must (refine wpList_append_vs (w2.alloc (.cells #[] 3)) rfl _ _ rfl w2.heap.size i1 hi1 hz1 hs1 hb1 _ (by rfl) (unhide oE) vf a n c ha hn (by rfl) (unhide VE) (by simp) ?_); intro v1 w3 ho hg; obtain ⟨av, cv, rfl⟩ := own_form ho; have O1 := hide ho; have G3 := hide hg; have O3 := hide hg; have lv3 := hide (fun k hk => (ho.lt k hk).2); clear ho hg)
  replace G3 := hide (below_of_grown (B := w2.heap.size) (unhide G3) (by simp) (fun k hk => by simp [Value.ownBlock] at hk; omega))
  replace G3 := hide ((al1_below w2 (.cells #[] 3)).trans (unhide G3))
  clear VE oE c0 c1
  obtain ⟨W4, hW⟩ : ∃ W, W = w3.alloc (.cells #[.slice av n cv, .slice none 0 0] 34) := ⟨_, rfl⟩
  have hn4 := hide (show Below w2.heap.size w2 W4 by rw [hW]; exact below_new _ (unhide G3) (Nat.le_refl _))
  have R3 := hide (show W4.heap[w3.heap.size]? = some (.cells #[.slice av n cv, .slice none 0 0] 34 (0, 0)) by rw [hW]; exact new_row _ _)
  replace O1 := hide (show W4.ownsRow w2.heap.size 3 1 (.slice av n cv) n ((listN vf n).map Iv) by rw [hW]; exact (unhide O1).alloc _)
  have sz4 := hide (show W4.heap.size = w3.heap.size + 1 by rw [hW]; simp)
  rw [← hW]
  clear hW G3
  have lb := hide (unhide HB).size
  have lo := hide (show w2.heap.size ≤ w3.heap.size by have := (unhide O3).size; simp at this; omega)
  replace HB := hide (below_two (unhide HB) (unhide hn4))
  have l0 := heap_lt (unhide R0)
  have l1 := heap_lt (unhide R1)
  have l2 := heap_lt (unhide R2)
  have lw2 := (unhide HB).size
  have l3 : w3.heap.size < W4.heap.size := heap_lt (unhide R3)
  have l4 := (unhide hn4).size
  replace R0 := hide (row_next (unhide hn4) (unhide R0))
  replace R1 := hide (row_next (unhide hn4) (unhide R1))
  replace R2 := hide (row_next (unhide hn4) (unhide R2))
  replace l3 := hide l3
  replace lw2 := hide lw2
  have lv := hide (show ∀ k, (Value.slice av n cv).ownBlock = some k → k < w3.heap.size from fun k hk => (unhide lv3 k hk))
  clear hn4 l4 lv3 O3
  have B4 : Hid (W4.heap.size = w3.heap.size + 1) := unhide sz4
  clear sz4
  have l0' : w.heap.size < w3.heap.size := Nat.lt_of_lt_of_le l0 (unhide lo)
  have l1' : w.heap.size + 1 < w3.heap.size := Nat.lt_of_lt_of_le l1 (unhide lo)
  have l2' : w.heap.size + 1 + 1 < w3.heap.size := Nat.lt_of_lt_of_le l2 (unhide lo)
  generalize w3.heap.size = ob at l0' l1' l2' R3 l3 lv lo B4 ⊢
  have lz := hide l2
  clear l0 l1 l2
  go_loopw [6] (fun i u => ∃ (k : Nat) (p : Option Addr) (cp : Nat), k ≤ m ∧ i = .int .i64 k ∧ u.heap[w.heap.size]? = some (.cells #[.int .i64 A, .int .i64 B, .int .i64 C, .int .i64 D, .int .i64 E, .int .i64 F] 31 (0, 0)) ∧ u.heap[w.heap.size + 1]? = some (.cells #[.slice a n c, .slice b m d] 34 (0, 0)) ∧ u.heap[w.heap.size + 1 + 1]? = some (.cells #[.slice none 0 0, .slice none 0 0] 34 (0, 0)) ∧ u.heap[ob]? = some (.cells #[.slice av n cv, .slice p k cp] 34 (0, 0)) ∧ u.ownsRow w2.heap.size 3 1 (.slice av n cv) n ((listN vf n).map Iv) ∧ u.ownsRow W4.heap.size 38 2 (.slice p k cp) k (ptsV (listN (fun i => mvP A B C D E F (pf i)) k)) ∧ Below w.heap.size w u ∧ ob + 1 ≤ u.heap.size) (fun i _ => m - (intOf i).toNat)
  case atStart => exact ⟨0, none, 0, Nat.zero_le _, rfl, unhide R0, unhide R1, unhide R2, unhide R3, unhide O1, World.ownsRow_nil _ _ _ _, unhide HB, by rw [unhide B4]; exact Nat.le_refl _⟩
  case round =>
    clear R0 R1 R2 R3 O1 HB
    obtain ⟨k, p, cp, hk, rfl, R0, R1, R2, R3, O1, O2, hb, hsz⟩ := hrel
    by_cases hlt : k < m
    · have HZ := (unhide P k hlt).next hb
      have ez : Hid (listN (fun i => mvP A B C D E F (pf i)) (k + 1) = listN (fun i => mvP A B C D E F (pf i)) k ++ [mvP A B C D E F (pf k)]) := listN_more _ _
      generalize hl : listN (fun i => mvP A B C D E F (pf i)) k = l at O2 ez
      have hll : l.length = k := by rw [← hl]; exact listN_len _ _
      replace hl := hide hl
      generalize pf k = z at HZ ez
      obtain ⟨x0, y0⟩ := z
      obtain ⟨s, o, rfl, g0, g1⟩ := HZ
      dsimp only at g0 g1
      have EA' := hide (unhide EA x0 y0)
      change Hid (listN (fun i => mvP A B C D E F (pf i)) (k + 1) = l ++ [(applyX A B C D E F x0 y0, applyY A B C D E F x0 y0)]) at ez
      generalize applyX A B C D E F x0 y0 = X at EA' ez
      generalize applyY A B C D E F x0 y0 = Y at EA' ez
      obtain ⟨q0, q1, q2, q3, q4, q5⟩ := row6 R0
      obtain ⟨t0, t1⟩ := row2 R1
      obtain ⟨u0, u1⟩ := row2 R3
      replace R0 := hide R0
      replace R1 := hide R1
      replace R2 := hide R2
      replace R3 := hide R3
      replace O1 := hide O1
      replace O2 := hide O2
      have HB := hide hb
      clear hb
      replace hsz := hide hsz
      go_wp2_with fail
      go_region_law (first | (refine step_call rfl 81 _ (by go_simp) (unhide EA' _) ?_; rintro r w5 ⟨rfl, hb5⟩; refine ⟨_, rfl, ?_⟩; have z1 := kc hb5 u1; have z2 := kn (.cells #[.int .i64 X, .int .i64 Y] 38) z1; have D5 := hide (show Below wr.heap.size wr w5 from below_undrew hb5)) | (refine step_append_any rfl _ _ 32 38 rfl W4.heap.size i2 (.agg #[.int .i64 0, .int .i64 0]) 2 16 Tryz.underlying32 hi2 hz2 hs2 hb2 rfl (by decide) (.slice p k cp) k (ptsV l) (by rfl) ((own_below (unhide O2) (unhide D5)).alloc _) ⟨w5.heap.size, 0, none⟩ 1 1 (ptV (X, Y)) (by rfl) (by rfl) (pt_cells w5 X Y _) (pt_one X Y) (by unfold maxLen; omega) (by omega) wr (ob + 1) (by rw [unhide B4]; exact Nat.le_refl _) (by rw [unhide B4]; have h1 := (unhide D5).size; have h2 := unhide hsz; simp; omega) (below_new _ ((unhide D5).mono (unhide hsz)) (unhide hsz)) ?_; intro v' w6 O6 D6; obtain ⟨p', cp', rfl⟩ := own_form O6; have R6 := hide ((D6.block ob (Nat.lt_succ_self _)).trans (unhide R3)); obtain ⟨h0, h1⟩ := row2 (unhide R6); obtain ⟨f0, f1⟩ := free2 (unhide R6); replace O6 := hide O6; replace D6 := hide D6))
      all_goals
        clear z1 z2 h0 h1 f0 f1
        go_wp2_with fail
        go_roundw
        case rel =>
          have lb1 := unhide lb
          refine ⟨k + 1, p', cp', by omega, by go_num, ?_, ?_, ?_, ?_, ?_, ?_, ?_, ?_⟩
          · exact setc_other (by omega) (((unhide D6).block _ (by omega)).trans (unhide R0))
          · exact setc_other (by omega) (((unhide D6).block _ (by omega)).trans (unhide R1))
          · exact setc_other (by omega) (((unhide D6).block _ (by omega)).trans (unhide R2))
          · exact set2_1 (unhide R6)
          · exact own_setc_ne (own_part (unhide O1) (unhide D6) (fun k hk => Nat.lt_succ_of_lt (unhide lv k hk))) (fun k hk => by have := unhide lv k hk; omega)
          · have := own_setc_ne (g := ob) (j := 1) (u := .slice p' (k + 1) cp') (unhide O6) (fun k hk => by have := (unhide O6).lt k hk; rw [unhide B4] at this; omega)
            rw [unhide ez, ptsV_app]
            exact this
          · exact ((unhide HB).trans ((unhide D6).mono (by omega))).setCell (p := ⟨ob, 1, none⟩) (by dsimp only; omega) _
          · rw [setc_size]; exact Nat.le_trans (unhide hsz) (unhide D6).size
        case measure => simp [intOf]; omega
    · have hke : k = m := by omega
      subst hke
      obtain ⟨t0, t1⟩ := row2 R1
      obtain ⟨u0, u1⟩ := row2 R3
      obtain ⟨e0, e1⟩ := row2 R2
      obtain ⟨f0, f1⟩ := free2 R2
      replace R1 := hide R1
      replace R2 := hide R2
      replace R3 := hide R3
      replace R0 := hide R0
      replace O1 := hide O1
      replace O2 := hide O2
      replace hb := hide hb
      go_wp2_with fail
      refine bodyPost_ret (v := .agg #[.slice av n cv, .slice p k cp]) (by simp [results, Tryz.results46, go_sem, e0, e1]) rfl ?_
      have lb1 := unhide lb
      refine ⟨_, _, _, _, rfl, ⟨own_low (own_setc_ne (own_setc_ne (unhide O1) ?_) ?_) lb1, own_low (own_setc_ne (own_setc_ne (unhide O2) ?_) ?_) (by rw [unhide B4]; omega), ?_⟩, ix_listN vf n, px_listN _ _, below_put2 (unhide hb) (by omega) _ _⟩
      · intro q hq e; have := ((unhide O1).lt q hq).1; have := unhide lz; omega
      · intro q hq e; have := ((unhide O1).lt q hq).1; have := unhide lz; omega
      · intro q hq e; have := ((unhide O2).lt q hq).1; rw [unhide B4] at this; omega
      · intro q hq e; have := ((unhide O2).lt q hq).1; rw [unhide B4] at this; omega
      · cases hq : (Value.slice av n cv).ownBlock with
        | none => exact .inl rfl
        | some q => exact .inr fun e => by have h1 := unhide lv q hq; have h2 := ((unhide O2).lt q e.symm).1; rw [unhide B4] at h2; omega
end Go.Proofs.YtfnbemmlafmjlaaGreat

/-
  The program's allRight: every point of a list is right.
-/
namespace Go.Proofs.YtfnbemmlafmjlaaGreat
open Go.RowKit

set_option maxHeartbeats 4000000 in
set_option maxRecDepth 100000 in
theorem implAllRight_any (pf : Nat → Int × Int) (b : Option Addr) (m d : Nat) (hm : m ≤ 1048576) (w : World)
    (x : Bool) (hx : x = true ↔ ∀ i, i < m → pointOkB (pf i).1 (pf i).2 = true) (P : ∀ i, i < m → PtArg w b i (pf i)) :
    Calls Tryz.prog 125 #[.slice b m d] w fun r w' => r = .returned (.bool x) ∧ Below w.heap.size w w' := by
  replace hx := hide hx
  replace P := hide P
  go_enter Tryz.func125, Tryz.ntmps125
  go_wp2_with fail
  go_loopw [7] (fun i u => ∃ q : Nat, q ≤ m ∧ i = .int .i64 q ∧ Hid (∀ j, j < q → pointOkB (pf j).1 (pf j).2 = true) ∧ Below w.heap.size w u) (fun i _ => m - (intOf i).toNat)
  case atStart => exact ⟨0, Nat.zero_le _, rfl, fun j hj => absurd hj (by omega), Below.refl _ _⟩
  case round =>
    obtain ⟨q, hq, rfl, HP, hb⟩ := hrel
    by_cases hlt : q < m
    · have HZ := (unhide P q hlt).next hb
      generalize hz : pf q = z at HZ
      obtain ⟨x0, y0⟩ := z
      obtain ⟨s, o, rfl, g0, g1⟩ := HZ
      dsimp only at g0 g1
      have E := hide (implPointOk_any x0 y0)
      replace hb := hide hb
      replace hz := hide hz
      go_wp2_with fail
      obtain ⟨W, hW⟩ : ∃ W, W = wr.alloc (.cells #[.int .i64 x0, .int .i64 y0] 38) := ⟨_, rfl⟩
      replace hb := hide (show Below w.heap.size w W by rw [hW]; exact below_new _ (unhide hb) (Nat.le_refl _))
      rw [← hW]
      clear hW g0 g1
      go_fit (unhide E _)
      rintro r w1 ⟨rfl, hb1⟩
      replace hb := hide (below_two (unhide hb) hb1)
      clear hb1
      cases hok : pointOkB x0 y0 with
      | true =>
        go_wp2_with fail
        go_roundw
        case rel => exact ⟨q + 1, by omega, by go_num, pok_more (unhide HP) (by rw [unhide hz]; exact hok), unhide hb⟩
        case measure => simp [intOf]; omega
      | false =>
        go_wp2_with fail
        go_ret
        exact ⟨bool_no (unhide hx) (fun h => by have := h q hlt; rw [unhide hz] at this; dsimp only at this; rw [hok] at this; cases this), unhide hb⟩
    · have hqe : q = m := by omega
      subst hqe
      replace hb := hide hb
      go_wp2_with fail
      go_ret
      exact ⟨bool_yes (unhide hx) (unhide HP), unhide hb⟩
end Go.Proofs.YtfnbemmlafmjlaaGreat

/-
  The program's NeedOf, verbsFit and PathOk.
-/
namespace Go.Proofs.YtfnbemmlafmjlaaGreat
open Go.RowKit

set_option maxHeartbeats 1000000 in
theorem implNeedOf_any (v : Int) (w : World) :
    Calls Tryz.prog 146 #[.int .i64 v] w fun r w' => r = .returned (.int .i64 (needI v)) ∧ Below w.heap.size w w' := by
  by_cases hv : isVerb v
  · have hk : needI v = needK v := needI_of hv
    rcases verb_cases hv with rfl | rfl | rfl | rfl | rfl
    all_goals
      clear hv
      rw [hk]
      clear hk
      go_enter Tryz.func146, Tryz.ntmps146
      go_wp2_with fail
      go_ret
      exact ⟨rfl, Below.refl _ _⟩
  · rw [show needI v = -1 from if_neg hv]
    have h1 : (v == 1) = false := by simp; intro e; exact hv (by rw [e]; decide)
    have h2 : (v == 2) = false := by simp; intro e; exact hv (by rw [e]; decide)
    have h3 : (v == 3) = false := by simp; intro e; exact hv (by rw [e]; decide)
    have h4 : (v == 4) = false := by simp; intro e; exact hv (by rw [e]; decide)
    have h5 : (v == 5) = false := by simp; intro e; exact hv (by rw [e]; decide)
    clear hv
    go_enter Tryz.func146, Tryz.ntmps146
    go_wp2_with fail
    go_ret
    exact ⟨rfl, Below.refl _ _⟩

def begunB (vf : Nat → Int) : Nat → Bool
  | 0 => false
  | k + 1 => vf k != 5
theorem begun_no {vf : Nat → Int} {k : Nat} : begunB vf k = false ↔ (k = 0 ∨ vf (k - 1) = 5) := by
  cases k with
  | zero => simp [begunB]
  | succ k => simp [begunB]
theorem begun_more {vf : Nat → Int} {k : Nat} {z : Int} (h : vf k = z) : begunB vf (k + 1) = (z != 5) := by rw [← h]; rfl

set_option maxHeartbeats 4000000 in
set_option maxRecDepth 100000 in
theorem implVerbsFit_any (vf : Nat → Int) (a : Option Addr) (n c p : Nat) (hn : n ≤ 24) (hp : p ≤ 24) (w : World)
    (x : Bool) (hx : x = true ↔ ((∀ j, j < n → VOk vf j) ∧ needN vf n = p)) (V : ∀ i, i < n → IntAt w a i (vf i)) :
    Calls Tryz.prog 126 #[.slice a n c, .int .i64 p] w fun r w' => r = .returned (.bool x) ∧ Below w.heap.size w w' := by
  replace hx := hide hx
  replace V := hide V
  go_enter Tryz.func126, Tryz.ntmps126
  go_wp2_with fail
  go_loopw [1, 5, 11] (fun s g i u => ∃ k : Nat, k ≤ n ∧ i = .int .i64 k ∧ s = .int .i64 ((p : Int) - (needN vf k : Nat)) ∧ g = .bool (begunB vf k) ∧ Hid (∀ j, j < k → VOk vf j) ∧ Below w.heap.size w u) (fun _ _ i _ => n - (intOf i).toNat)
  case atStart => exact ⟨0, Nat.zero_le _, rfl, by simp [needN], rfl, fun j hj => absurd hj (by omega), Below.refl _ _⟩
  case round =>
    obtain ⟨k, hk, rfl, rfl, rfl, HV, hb⟩ := hrel
    have hN := needN_le vf k
    by_cases hlt : k < n
    · have HZ := (unhide V k hlt).next hb
      have eg : Hid (begunB vf k = false ↔ (k = 0 ∨ vf (k - 1) = 5)) := begun_no
      generalize begunB vf k = g at eg ⊢
      generalize hz : vf k = z at HZ
      obtain ⟨s, o, rfl, g0⟩ := HZ
      have E := hide (implNeedOf_any z)
      replace hb := hide hb
      by_cases hv : isVerb z
      · rw [needI_of hv] at E
        have hkk := needK_le z
        have hneg : ¬ ((needK z : Int) < 0) := by omega
        have hw : IntKind.i64.wrap (((p : Int) - (needN vf k : Nat)) - (needK z : Int)) = (p : Int) - (needN vf k : Nat) - (needK z : Int) := IntWalk.i64_in _ (by omega)
        replace hz := hide hz
        go_wp2_with fail
        go_fit (unhide E _)
        rintro r w1 ⟨rfl, hb1⟩
        replace hb := hide (below_two (unhide hb) hb1)
        clear hb1 E
        cases g with
        | false =>
          by_cases hz1 : z = 1
          · have hzb : (z != 1) = false := by simp [hz1]
            replace hz1 := hide hz1
            go_wp2_with fail
            go_roundw
            case rel => exact ⟨k + 1, by omega, by go_num, by simp only [needN]; rw [unhide hz]; go_num, by rw [begun_more (unhide hz)], vok_more (unhide HV) ⟨by rw [unhide hz]; exact hv, fun _ => by rw [unhide hz]; exact unhide hz1⟩, unhide hb⟩
            case measure => simp [intOf]; omega
          · have hzb : (z != 1) = true := by simp [hz1]
            go_wp2_with fail
            go_ret
            exact ⟨bool_no (unhide hx) (fun h => absurd ((h.1 k hlt).2 ((unhide eg).1 (by first | rfl | trivial))) (by rw [unhide hz]; exact hz1)), unhide hb⟩
        | true =>
          go_wp2_with fail
          go_roundw
          case rel => exact ⟨k + 1, by omega, by go_num, by simp only [needN]; rw [unhide hz]; go_num, by rw [begun_more (unhide hz)], vok_more (unhide HV) ⟨by rw [unhide hz]; exact hv, fun h => absurd ((unhide eg).2 h) (by simp)⟩, unhide hb⟩
          case measure => simp [intOf]; omega
      · rw [show needI z = -1 from if_neg hv] at E
        go_wp2_with fail
        go_fit (unhide E _)
        rintro r w1 ⟨rfl, hb1⟩
        go_wp2_with fail
        go_ret
        exact ⟨bool_no (unhide hx) (fun h => absurd (h.1 k hlt).1 (by rw [hz]; exact hv)), below_two (unhide hb) hb1⟩
    · have hke : k = n := by omega
      subst hke
      by_cases hs : needN vf k = p
      · have hs' : (((p : Int) - (needN vf k : Nat)) == 0) = true := by simp; omega
        replace hs := hide hs
        replace hb := hide hb
        clear hN
        go_wp2_with fail
        go_ret
        exact ⟨bool_yes (unhide hx) ⟨unhide HV, unhide hs⟩, unhide hb⟩
      · have hs' : (((p : Int) - (needN vf k : Nat)) == 0) = false := by simp; omega
        replace hs := hide hs
        replace hb := hide hb
        clear hN
        go_wp2_with fail
        go_ret
        exact ⟨bool_no (unhide hx) (fun h => unhide hs h.2), unhide hb⟩

set_option maxHeartbeats 4000000 in
set_option maxRecDepth 100000 in
theorem implPathOk_any (vf : Nat → Int) (pf : Nat → Int × Int) (a b : Option Addr) (n c m d : Nat) (hn : n ≤ 1048576) (hm : m ≤ 1048576) (w : World)
    (x : Bool) (hx : x = true ↔ Right vf n pf m) (V : ∀ i, i < n → IntAt w a i (vf i)) (P : ∀ i, i < m → PtArg w b i (pf i)) :
    Calls Tryz.prog 90 #[.agg #[.slice a n c, .slice b m d]] w fun r w' => r = .returned (.bool x) ∧ Below w.heap.size w w' := by
  replace hx := hide hx
  replace V := hide V
  replace P := hide P
  by_cases h1 : 24 < n
  · have h1' : (24 : Int) < n := by omega
    go_enter Tryz.func90, Tryz.ntmps90
    go_wp2_with fail
    go_ret
    exact ⟨bool_no (unhide hx) (fun h => by have := h.nv24; omega), al1_below _ _⟩
  have h1' : ¬ (24 : Int) < n := by omega
  by_cases h2 : 24 < m
  · have h2' : (24 : Int) < m := by omega
    go_enter Tryz.func90, Tryz.ntmps90
    go_wp2_with fail
    go_ret
    exact ⟨bool_no (unhide hx) (fun h => by have := h.np24; omega), al1_below _ _⟩
  have h2' : ¬ (24 : Int) < m := by omega
  obtain ⟨y, hy⟩ : ∃ y : Bool, y = true ↔ ∀ i, i < m → pointOkB (pf i).1 (pf i).2 = true := by
    by_cases h : ∀ i, i < m → pointOkB (pf i).1 (pf i).2 = true
    · exact ⟨true, fun _ => h, fun _ => rfl⟩
    · exact ⟨false, fun e => (by cases e), fun e => absurd e h⟩
  have EA := hide (fun u P => implAllRight_any pf b m d hm u y hy P)
  replace hy := hide hy
  go_enter Tryz.func90, Tryz.ntmps90
  go_wp2_with fail
  obtain ⟨W, hW⟩ : ∃ W, W = w.alloc (.cells #[.slice a n c, .slice b m d] 34) := ⟨_, rfl⟩
  have R := hide (show W.heap[w.heap.size]? = some (.cells #[.slice a n c, .slice b m d] 34 (0, 0)) by rw [hW]; exact new_row _ _)
  have HB := hide (show Below w.heap.size w W by rw [hW]; exact al1_below _ _)
  rw [← hW]
  clear hW
  go_fit (unhide EA _ (fun i hi => (unhide P i hi).next (unhide HB)))
  rintro r w1 ⟨rfl, hb1⟩
  replace R := hide (row_next hb1 (unhide R))
  replace HB := hide (below_two (unhide HB) hb1)
  clear hb1 EA
  cases y with
  | false =>
    go_wp2_with fail
    go_ret
    exact ⟨bool_no (unhide hx) (fun h => by have := (unhide hy).2 h.points; cases this), unhide HB⟩
  | true =>
    obtain ⟨r0, r1⟩ := row2 (unhide R)
    have E := hide (fun u V => implVerbsFit_any vf a n c m (by omega) (by omega) u x ⟨fun h => ⟨((unhide hx).1 h).verbs, ((unhide hx).1 h).sum⟩, fun h => (unhide hx).2 ⟨by omega, by omega, h.1, (unhide hy).1 rfl, h.2⟩⟩ V)
    replace V := hide (fun i hi => (unhide V i hi).next (unhide HB))
    go_wp2_with fail
    go_fit (unhide E _ (unhide V))
    rintro r w2 ⟨rfl, hb2⟩
    go_wp2_with fail
    go_ret
    exact ⟨rfl, below_two (unhide HB) hb2⟩
end Go.Proofs.YtfnbemmlafmjlaaGreat

/-
  The program's MovePath.
-/
namespace Go.Proofs.YtfnbemmlafmjlaaGreat
open Go.RowKit

theorem notNilInts (w : World) (a : Addr) (n c : Nat) : (binOp .eql 28 (.slice (some a) n c) (.slice none 0 0)).run Tryz.prog w = .ok (.bool false) w := by kernel_rfl

end Go.Proofs.YtfnbemmlafmjlaaGreat

/-
  MovePath where the verbs may be nil: the program's. (By moveu.py.)
-/
namespace Go.Proofs.YtfnbemmlafmjlaaGreat
open Go.RowKit

theorem nilInts (w : World) : (binOp .eql 28 (.slice none 0 0) (.slice none 0 0)).run Tryz.prog w = .ok (.bool true) w := by kernel_rfl
attribute [local go_sem ↓] nilInts in
set_option maxHeartbeats 4000000 in
theorem slicesClone_nil (w : World) : Calls Tryz.prog 162 #[.slice none 0 0] w fun r w' => r = .returned (.slice none 0 0) ∧ Below w.heap.size w w' := by
  go_enter Tryz.func162, Tryz.ntmps162
  go_wp2_with fail
  go_ret
  exact ⟨rfl, Below.refl _ _⟩
attribute [local go_sem ↓] notNilInts in
set_option maxHeartbeats 4000000 in
theorem slicesClone_ad (vf : Nat → Int) (ad : Addr) (n c : Nat) (hn : n ≤ 1048576) (w : World) (V : ∀ i, i < n → IntAt w (some ad) i (vf i)) :
    Calls Tryz.prog 162 #[.slice (some ad) n c] w fun r w' => ∃ av cv, r = .returned (.slice av n cv) ∧ w'.ownsRow w.heap.size 3 1 (.slice av n cv) n ((listN vf n).map Iv) ∧ Below w.heap.size w w' := by
  obtain ⟨i1, hi1, hz1, hs1, hb1⟩ := info_parts Tryz.info3
  have oE := hide (show (w.alloc (.cells #[] 3)).ownsRow w.heap.size 3 1 (.slice (some ⟨w.heap.size, 0, none⟩) 0 0) 0 [] from World.ownsRow_lit w #[] 0 (Nat.le_refl _) (by decide) rfl)
  have VE := hide (fun i (hi : i < n) => (V i hi).next (al1_below w (.cells #[] 3)))
  clear V
  go_enter Tryz.func162, Tryz.ntmps162
  go_wp2_with (at_builtin; go_must (refine wpList_append_vs (w.alloc (.cells #[] 3)) rfl _ _ rfl w.heap.size i1 hi1 hz1 hs1 hb1 _ (by rfl) (unhide oE) vf (some ad) n c (fun e => by cases e) hn (by rfl) (unhide VE) (by simp) ?_); intro v1 w3 ho hg; obtain ⟨av, cv, rfl⟩ := own_form ho; have O1 := hide ho; have G3 := hide hg; clear ho hg)
  replace G3 := hide (below_of_grown (B := w.heap.size) (unhide G3) (by simp) (fun k hk => by simp [Value.ownBlock] at hk; omega))
  replace G3 := hide ((al1_below w (.cells #[] 3)).trans (unhide G3))
  go_ret
  exact ⟨av, cv, rfl, unhide O1, unhide G3⟩
theorem slicesClone_gen (vf : Nat → Int) (a : Option Addr) (n c : Nat) (ha : a = none → n = 0 ∧ c = 0) (hn : n ≤ 1048576) (w : World) (V : ∀ i, i < n → IntAt w a i (vf i)) :
    Calls Tryz.prog 162 #[.slice a n c] w fun r w' => ∃ av cv, r = .returned (.slice av n cv) ∧ w'.ownsRow w.heap.size 3 1 (.slice av n cv) n ((listN vf n).map Iv) ∧ Below w.heap.size w w' := by
  cases a with
  | none =>
    obtain ⟨rfl, rfl⟩ := ha rfl
    exact (slicesClone_nil w).mono fun r w' h => ⟨none, 0, h.1, ⟨rfl, .inl ⟨rfl, rfl⟩⟩, h.2⟩
  | some ad => exact slicesClone_ad vf ad n c hn w V

set_option maxHeartbeats 8000000 in
set_option maxRecDepth 100000 in
theorem implMovePath_gen (A B C D E F : Int) (vf : Nat → Int) (pf : Nat → Int × Int) (a b : Option Addr) (n c m d : Nat) (ha : a = none → n = 0 ∧ c = 0) (hn : n ≤ 1048576) (hm : m ≤ 1048576) (w : World)
    (x : Bool) (hx : x = true ↔ Right vf n pf m) (V : ∀ i, i < n → IntAt w a i (vf i)) (P : ∀ i, i < m → PtArg w b i (pf i)) :
    Calls Tryz.prog 133 #[.agg #[.int .i64 A, .int .i64 B, .int .i64 C, .int .i64 D, .int .i64 E, .int .i64 F], .agg #[.slice a n c, .slice b m d]] w fun r w' =>
      PathRes w r w' (okN (x && matOkB A B C D E F) n) (okN (x && matOkB A B C D E F) m) vf (fun i => mvP A B C D E F (pf i)) := by
  obtain ⟨i2, hi2, hz2, hs2, hb2⟩ := info_parts infoPoint
  have EO := hide (fun u V P => implPathOk_any vf pf a b n c m d hn hm u x hx V P)
  have EM := hide (implMatOk_any A B C D E F)
  have EA := hide (fun x y => implApply_any A B C D E F x y)
  have EC := hide (fun u V => slicesClone_gen vf a n c ha hn u V)
  generalize matOkB A B C D E F = y at EM ⊢
  replace V := hide V
  replace P := hide P
  replace hx := hide hx
  go_enter Tryz.func133, Tryz.ntmps133
  go_wp2_with fail
  obtain ⟨W, hW⟩ : ∃ W, W = ((w.alloc (.cells #[.int .i64 A, .int .i64 B, .int .i64 C, .int .i64 D, .int .i64 E, .int .i64 F] 31)).alloc (.cells #[.slice a n c, .slice b m d] 34)).alloc (.cells #[.slice none 0 0, .slice none 0 0] 34) := ⟨_, rfl⟩
  have HB := hide (show Below w.heap.size w W by rw [hW]; exact al3_below _ _ _ _)
  have R0 := hide (show W.heap[w.heap.size]? = some (.cells #[.int .i64 A, .int .i64 B, .int .i64 C, .int .i64 D, .int .i64 E, .int .i64 F] 31 (0, 0)) by rw [hW]; exact al3_0 _ _ _ _)
  have R1 := hide (show W.heap[w.heap.size + 1]? = some (.cells #[.slice a n c, .slice b m d] 34 (0, 0)) by rw [hW]; exact al3_1 _ _ _ _)
  have R2 := hide (show W.heap[w.heap.size + 1 + 1]? = some (.cells #[.slice none 0 0, .slice none 0 0] 34 (0, 0)) by rw [hW]; exact al3_2 _ _ _ _)
  rw [← hW]
  clear hW
  go_fit (unhide EM _)
  rintro r w1 ⟨rfl, hb⟩
  replace HB := hide (below_two (unhide HB) hb)
  replace R0 := hide (row_next hb (unhide R0))
  replace R1 := hide (row_next hb (unhide R1))
  replace R2 := hide (row_next hb (unhide R2))
  clear hb EM
  cases y with
  | false =>
    obtain ⟨f0, f1⟩ := free2 (unhide R2)
    obtain ⟨c0, c1⟩ := row2 (unhide R2)
    go_wp2_with fail
    refine bodyPost_ret (v := .agg #[.slice none 0 0, .slice none 0 0]) (by simp [results, Tryz.results133, go_sem, c0, c1]) rfl ?_
    rw [Bool.and_false]
    exact res_none (below_put2 (unhide HB) (by omega) _ _)
  | true =>
  obtain ⟨t0, t1⟩ := row2 (unhide R1)
  go_wp2_with fail
  go_fit (unhide EO _ (fun i hi => (unhide V i hi).next (unhide HB)) (fun i hi => (unhide P i hi).next (unhide HB)))
  rintro r w2 ⟨rfl, hb⟩
  replace HB := hide (below_two (unhide HB) hb)
  replace R0 := hide (row_next hb (unhide R0))
  replace R1 := hide (row_next hb (unhide R1))
  replace R2 := hide (row_next hb (unhide R2))
  clear hb EO t0 t1
  cases x with
  | false =>
    obtain ⟨f0, f1⟩ := free2 (unhide R2)
    obtain ⟨c0, c1⟩ := row2 (unhide R2)
    go_wp2_with fail
    refine bodyPost_ret (v := .agg #[.slice none 0 0, .slice none 0 0]) (by simp [results, Tryz.results133, go_sem, c0, c1]) rfl ?_
    exact res_none (below_put2 (unhide HB) (by omega) _ _)
  | true =>
  obtain ⟨c0, c1⟩ := row2 (unhide R1)
  go_wp2_with fail
  go_fit (unhide EC _ (fun i hi => (unhide V i hi).next (unhide HB)))
  rintro r w3 ⟨av, cv, rfl, O1, hb⟩
  have lv := hide (show ∀ k, (Value.slice av n cv).ownBlock = some k → k < w3.heap.size from fun k hk => (O1.lt k hk).2)
  have lb := hide (unhide HB).size
  have lo := hide hb.size
  have lz : Hid (w.heap.size + 1 + 1 < w2.heap.size) := heap_lt (unhide R2)
  replace R0 := hide (row_next hb (unhide R0))
  replace R1 := hide (row_next hb (unhide R1))
  replace R2 := hide (row_next hb (unhide R2))
  replace HB := hide (below_two (unhide HB) hb)
  replace O1 := hide O1
  clear hb c0 c1 EC
  obtain ⟨c0, c1⟩ := row2 (old_row (.cells #[.slice av n cv, .slice none 0 0] 34) (unhide R1))
  go_wp2_with fail
  clear c0 c1
  obtain ⟨W4, hW⟩ : ∃ W, W = w3.alloc (.cells #[.slice av n cv, .slice none 0 0] 34) := ⟨_, rfl⟩
  have R3 := hide (show W4.heap[w3.heap.size]? = some (.cells #[.slice av n cv, .slice none 0 0] 34 (0, 0)) by rw [hW]; exact new_row _ _)
  replace O1 := hide (show W4.ownsRow w2.heap.size 3 1 (.slice av n cv) n ((listN vf n).map Iv) by rw [hW]; exact (unhide O1).alloc _)
  replace R0 := hide (show W4.heap[w.heap.size]? = some (.cells #[.int .i64 A, .int .i64 B, .int .i64 C, .int .i64 D, .int .i64 E, .int .i64 F] 31 (0, 0)) by rw [hW]; exact old_row _ (unhide R0))
  replace R2 := hide (show W4.heap[w.heap.size + 1 + 1]? = some (.cells #[.slice none 0 0, .slice none 0 0] 34 (0, 0)) by rw [hW]; exact old_row _ (unhide R2))
  replace HB := hide (show Below w.heap.size w W4 by rw [hW]; exact below_new _ (unhide HB) (Nat.le_refl _))
  have B4 := hide (show W4.heap.size = w3.heap.size + 1 by rw [hW]; simp)
  rw [← hW]
  clear hW R1
  have l2' : w.heap.size + 1 + 1 < w3.heap.size := Nat.lt_of_lt_of_le (unhide lz) (unhide lo)
  have l0' : w.heap.size < w3.heap.size := by omega
  generalize w3.heap.size = ob at l0' l2' R3 lv lo B4 ⊢
  go_loopw [24] (fun i u => ∃ (k : Nat) (p : Option Addr) (cp : Nat), k ≤ m ∧ i = .int .i64 k ∧ u.heap[w.heap.size]? = some (.cells #[.int .i64 A, .int .i64 B, .int .i64 C, .int .i64 D, .int .i64 E, .int .i64 F] 31 (0, 0)) ∧ u.heap[w.heap.size + 1 + 1]? = some (.cells #[.slice none 0 0, .slice none 0 0] 34 (0, 0)) ∧ u.heap[ob]? = some (.cells #[.slice av n cv, .slice p k cp] 34 (0, 0)) ∧ u.ownsRow w2.heap.size 3 1 (.slice av n cv) n ((listN vf n).map Iv) ∧ u.ownsRow W4.heap.size 38 2 (.slice p k cp) k (ptsV (listN (fun i => mvP A B C D E F (pf i)) k)) ∧ Below w.heap.size w u ∧ ob + 1 ≤ u.heap.size) (fun i _ => m - (intOf i).toNat)
  case atStart => exact ⟨0, none, 0, Nat.zero_le _, rfl, unhide R0, unhide R2, unhide R3, unhide O1, World.ownsRow_nil _ _ _ _, unhide HB, by rw [unhide B4]; exact Nat.le_refl _⟩
  case round =>
    clear R0 R2 R3 O1 HB
    obtain ⟨k, p, cp, hk, rfl, R0, R2, R3, O1, O2, hb, hsz⟩ := hrel
    by_cases hlt : k < m
    · have HZ := (unhide P k hlt).next hb
      have ez : Hid (listN (fun i => mvP A B C D E F (pf i)) (k + 1) = listN (fun i => mvP A B C D E F (pf i)) k ++ [mvP A B C D E F (pf k)]) := listN_more _ _
      generalize hl : listN (fun i => mvP A B C D E F (pf i)) k = l at O2 ez
      have hll : l.length = k := by rw [← hl]; exact listN_len _ _
      replace hl := hide hl
      generalize pf k = z at HZ ez
      obtain ⟨x0, y0⟩ := z
      obtain ⟨s, o, rfl, g0, g1⟩ := HZ
      dsimp only at g0 g1
      have EA' := hide (unhide EA x0 y0)
      change Hid (listN (fun i => mvP A B C D E F (pf i)) (k + 1) = l ++ [(applyX A B C D E F x0 y0, applyY A B C D E F x0 y0)]) at ez
      generalize applyX A B C D E F x0 y0 = X at EA' ez
      generalize applyY A B C D E F x0 y0 = Y at EA' ez
      replace R0 := hide R0
      replace R2 := hide R2
      replace R3 := hide R3
      replace O1 := hide O1
      replace O2 := hide O2
      have HB := hide hb
      clear hb
      replace hsz := hide hsz
      go_wp2_with fail
      clear g0 g1
      obtain ⟨W5, hW⟩ : ∃ W, W = wr.alloc (.cells #[.int .i64 x0, .int .i64 y0] 38) := ⟨_, rfl⟩
      have P5 := hide (show W5.heap[wr.heap.size]? = some (.cells #[.int .i64 x0, .int .i64 y0] 38 (0, 0)) by rw [hW]; exact new_row _ _)
      replace R0 := hide (show W5.heap[w.heap.size]? = some (.cells #[.int .i64 A, .int .i64 B, .int .i64 C, .int .i64 D, .int .i64 E, .int .i64 F] 31 (0, 0)) by rw [hW]; exact old_row _ (unhide R0))
      replace R2 := hide (show W5.heap[w.heap.size + 1 + 1]? = some (.cells #[.slice none 0 0, .slice none 0 0] 34 (0, 0)) by rw [hW]; exact old_row _ (unhide R2))
      replace R3 := hide (show W5.heap[ob]? = some (.cells #[.slice av n cv, .slice p k cp] 34 (0, 0)) by rw [hW]; exact old_row _ (unhide R3))
      replace O1 := hide (show W5.ownsRow w2.heap.size 3 1 (.slice av n cv) n ((listN vf n).map Iv) by rw [hW]; exact (unhide O1).alloc _)
      replace O2 := hide (show W5.ownsRow W4.heap.size 38 2 (.slice p k cp) k (ptsV l) by rw [hW]; exact (unhide O2).alloc _)
      replace HB := hide (show Below w.heap.size w W5 by rw [hW]; exact below_new _ (unhide HB) (Nat.le_refl _))
      replace hsz := hide (show ob + 1 ≤ W5.heap.size by rw [hW]; have := unhide hsz; simp; omega)
      rw [← hW]
      clear hW
      generalize wr.heap.size = ps at P5 ⊢
      obtain ⟨q0, q1, q2, q3, q4, q5⟩ := row6 (unhide R0)
      obtain ⟨t0, t1⟩ := row2 (unhide P5)
      obtain ⟨u0, u1⟩ := row2 (unhide R3)
      go_region_law (first | (refine step_call rfl 163 _ (by go_simp) (unhide EA' _) ?_; rintro r w5 ⟨rfl, hb5⟩; refine ⟨_, rfl, ?_⟩; have z1 := kc hb5 u1; have z2 := kn (.cells #[.int .i64 X, .int .i64 Y] 38) z1; have D5 := hide (show Below W5.heap.size W5 w5 from below_undrew hb5)) | (refine step_append_any rfl _ _ 32 38 rfl W4.heap.size i2 (.agg #[.int .i64 0, .int .i64 0]) 2 16 Tryz.underlying32 hi2 hz2 hs2 hb2 rfl (by decide) (.slice p k cp) k (ptsV l) (by rfl) ((own_below (unhide O2) (unhide D5)).alloc _) ⟨w5.heap.size, 0, none⟩ 1 1 (ptV (X, Y)) (by rfl) (by rfl) (pt_cells w5 X Y _) (pt_one X Y) (by unfold maxLen; omega) (by omega) W5 (ob + 1) (by rw [unhide B4]; exact Nat.le_refl _) (by rw [unhide B4]; have h1 := (unhide D5).size; have h2 := unhide hsz; simp; omega) (below_new _ ((unhide D5).mono (unhide hsz)) (unhide hsz)) ?_; intro v' w6 O6 D6; obtain ⟨p', cp', rfl⟩ := own_form O6; have R6 := hide ((D6.block ob (Nat.lt_succ_self _)).trans (unhide R3)); obtain ⟨h0, h1⟩ := row2 (unhide R6); obtain ⟨f0, f1⟩ := free2 (unhide R6); replace O6 := hide O6; replace D6 := hide D6))
      all_goals
        clear z1 z2 h0 h1 f0 f1
        go_wp2_with fail
        go_roundw
        case rel =>
          have lb1 := unhide lb
          refine ⟨k + 1, p', cp', by omega, by go_num, ?_, ?_, ?_, ?_, ?_, ?_, ?_⟩
          · exact setc_other (by omega) (((unhide D6).block _ (by omega)).trans (unhide R0))
          · exact setc_other (by omega) (((unhide D6).block _ (by omega)).trans (unhide R2))
          · exact set2_1 (unhide R6)
          · exact own_setc_ne (own_part (unhide O1) (unhide D6) (fun k hk => Nat.lt_succ_of_lt (unhide lv k hk))) (fun k hk => by have := unhide lv k hk; omega)
          · have := own_setc_ne (g := ob) (j := 1) (u := .slice p' (k + 1) cp') (unhide O6) (fun k hk => by have := (unhide O6).lt k hk; rw [unhide B4] at this; omega)
            rw [unhide ez, ptsV_app]
            exact this
          · exact ((unhide HB).trans ((unhide D6).mono (by omega))).setCell (p := ⟨ob, 1, none⟩) (by dsimp only; omega) _
          · rw [setc_size]; exact Nat.le_trans (unhide hsz) (unhide D6).size
        case measure => simp [intOf]; omega
    · have hke : k = m := by omega
      subst hke
      obtain ⟨u0, u1⟩ := row2 R3
      obtain ⟨e0, e1⟩ := row2 R2
      obtain ⟨f0, f1⟩ := free2 R2
      replace R2 := hide R2
      replace R3 := hide R3
      replace R0 := hide R0
      replace O1 := hide O1
      replace O2 := hide O2
      replace hb := hide hb
      go_wp2_with fail
      refine bodyPost_ret (v := .agg #[.slice av n cv, .slice p k cp]) (by simp [results, Tryz.results133, go_sem, e0, e1]) rfl ?_
      have lb1 := unhide lb
      refine ⟨_, _, _, _, rfl, ⟨own_low (own_setc_ne (own_setc_ne (unhide O1) ?_) ?_) lb1, own_low (own_setc_ne (own_setc_ne (unhide O2) ?_) ?_) (by rw [unhide B4]; omega), ?_⟩, ix_listN vf n, px_listN _ _, below_put2 (unhide hb) (by omega) _ _⟩
      · intro q hq e; have := ((unhide O1).lt q hq).1; have := unhide lz; omega
      · intro q hq e; have := ((unhide O1).lt q hq).1; have := unhide lz; omega
      · intro q hq e; have := ((unhide O2).lt q hq).1; rw [unhide B4] at this; omega
      · intro q hq e; have := ((unhide O2).lt q hq).1; rw [unhide B4] at this; omega
      · cases hq : (Value.slice av n cv).ownBlock with
        | none => exact .inl rfl
        | some q => exact .inr fun e => by have h1 := unhide lv q hq; have h2 := ((unhide O2).lt q e.symm).1; rw [unhide B4] at h2; omega
end Go.Proofs.YtfnbemmlafmjlaaGreat

/-
  Points on curves: the arithmetic of both sides, and the program's weighed.
-/
namespace Go.Proofs.YtfnbemmlafmjlaaGreat
open Go.RowKit

def wsum (wf g : Nat → Int) : Nat → Int
  | 0 => 0
  | k + 1 => wsum wf g k + wf k * g k

theorem wsum_bd {wf g : Nat → Int} {n : Nat} (hw : ∀ i, i < n → 0 ≤ wf i ∧ wf i ≤ 512) (hg : ∀ i, i < n → -8388608 ≤ g i ∧ g i ≤ 8388608) :
    ∀ k, k ≤ n → -((k : Int) * 4294967296) ≤ wsum wf g k ∧ wsum wf g k ≤ (k : Int) * 4294967296
  | 0, _ => by simp [wsum]
  | k + 1, h => by
    have ih := wsum_bd hw hg k (by omega)
    have h1 := hw k (by omega)
    have h2 := hg k (by omega)
    have h3 := mul_bd (A := 512) (X := 8388608) (by omega) h1.2 h2.1 h2.2
    simp only [wsum]
    omega

theorem wone {wf : Nat → Int} (k : Nat) : wsum wf (fun _ => 1) (k + 1) = wsum wf (fun _ => 1) k + wf k := by simp [wsum]

def quadI (a b c i : Int) : Int := rdivI ((4 - i) * (4 - i) * a + 2 * i * (4 - i) * b + i * i * c) 16
def cubicI (a b c d i : Int) : Int := rdivI ((8 - i) * (8 - i) * (8 - i) * a + 3 * i * (8 - i) * (8 - i) * b + 3 * i * i * (8 - i) * c + i * i * i * d) 512
def quadOk (a b c : Int × Int) : Bool := pointOkB a.1 a.2 && (pointOkB b.1 b.2 && pointOkB c.1 c.2)
def cubicOk (a b c d : Int × Int) : Bool := pointOkB a.1 a.2 && (pointOkB b.1 b.2 && (pointOkB c.1 c.2 && pointOkB d.1 d.2))
def quadP (a b c : Int × Int) (i : Int) : Int × Int := if quadOk a b c = true then (quadI a.1 b.1 c.1 (clampI i 0 4), quadI a.2 b.2 c.2 (clampI i 0 4)) else (0, 0)
def cubicP (a b c d : Int × Int) (i : Int) : Int × Int := if cubicOk a b c d = true then (cubicI a.1 b.1 c.1 d.1 (clampI i 0 8), cubicI a.2 b.2 c.2 d.2 (clampI i 0 8)) else (0, 0)

theorem clamp_in {x h : Int} (hh : 0 ≤ h) : 0 ≤ clampI x 0 h ∧ clampI x 0 h ≤ h := by unfold clampI; split <;> (try split) <;> omega

theorem four_cases {i : Int} (h : 0 ≤ i ∧ i ≤ 4) : i = 0 ∨ i = 1 ∨ i = 2 ∨ i = 3 ∨ i = 4 := by omega
theorem eight_cases {i : Int} (h : 0 ≤ i ∧ i ≤ 8) : i = 0 ∨ i = 1 ∨ i = 2 ∨ i = 3 ∨ i = 4 ∨ i = 5 ∨ i = 6 ∨ i = 7 ∨ i = 8 := by omega

theorem quad_in {a b c i lo hi : Int} (h : 0 ≤ i ∧ i ≤ 4) (a0 : lo ≤ a) (a1 : a ≤ hi) (b0 : lo ≤ b) (b1 : b ≤ hi) (c0 : lo ≤ c) (c1 : c ≤ hi) : lo ≤ quadI a b c i ∧ quadI a b c i ≤ hi := by
  unfold quadI rdivI
  rw [if_neg (by decide)]
  rcases four_cases h with rfl | rfl | rfl | rfl | rfl <;> split <;> omega
theorem cubic_in {a b c d i lo hi : Int} (h : 0 ≤ i ∧ i ≤ 8) (a0 : lo ≤ a) (a1 : a ≤ hi) (b0 : lo ≤ b) (b1 : b ≤ hi) (c0 : lo ≤ c) (c1 : c ≤ hi) (d0 : lo ≤ d) (d1 : d ≤ hi) : lo ≤ cubicI a b c d i ∧ cubicI a b c d i ≤ hi := by
  unfold cubicI rdivI
  rw [if_neg (by decide)]
  rcases eight_cases h with rfl | rfl | rfl | rfl | rfl | rfl | rfl | rfl | rfl <;> split <;> omega

set_option maxHeartbeats 4000000 in
set_option maxRecDepth 100000 in
theorem implWeighed_any (pf : Nat → Int × Int) (wf : Nat → Int) (b a : Option Addr) (m d n c : Nat) (hnm : n ≤ m) (hm : m ≤ 4)
    (hw : ∀ i, i < n → 0 ≤ wf i ∧ wf i ≤ 512) (hpx : ∀ i, i < n → -8388608 ≤ (pf i).1 ∧ (pf i).1 ≤ 8388608) (hpy : ∀ i, i < n → -8388608 ≤ (pf i).2 ∧ (pf i).2 ≤ 8388608)
    (w : World) (V : ∀ i, i < n → IntAt w a i (wf i)) (P : ∀ i, i < m → PtArg w b i (pf i)) :
    Calls Tryz.prog 196 #[.slice b m d, .slice a n c] w fun r w' => r = .returned (.agg #[.int .i64 (rdivI (wsum wf (fun i => (pf i).1) n) (wsum wf (fun _ => 1) n)), .int .i64 (rdivI (wsum wf (fun i => (pf i).2) n) (wsum wf (fun _ => 1) n))]) ∧ Below w.heap.size w w' := by
  have hX := hide (fun k hk => wsum_bd hw hpx k hk)
  have hY := hide (fun k hk => wsum_bd hw hpy k hk)
  have hO := hide (fun k hk => wsum_bd (g := fun _ => 1) hw (fun _ _ => by omega) k hk)
  replace hw := hide hw
  replace hpx := hide hpx
  replace hpy := hide hpy
  replace V := hide V
  replace P := hide P
  go_enter Tryz.func196, Tryz.ntmps196
  go_wp2_with fail
  obtain ⟨W, hW⟩ : ∃ W, W = w.alloc (.cells #[.int .i64 0, .int .i64 0] 38) := ⟨_, rfl⟩
  have R := hide (show W.heap[w.heap.size]? = some (.cells #[.int .i64 0, .int .i64 0] 38 (0, 0)) by rw [hW]; exact new_row _ _)
  have HB := hide (show Below w.heap.size w W by rw [hW]; exact al1_below _ _)
  rw [← hW]
  clear hW
  go_loopw [5, 6, 7, 12] (fun x y s i u => ∃ k : Nat, k ≤ n ∧ i = .int .i64 k ∧ x = .int .i64 (wsum wf (fun i => (pf i).1) k) ∧ y = .int .i64 (wsum wf (fun i => (pf i).2) k) ∧ s = .int .i64 (wsum wf (fun _ => 1) k) ∧ u = W) (fun _ _ _ i _ => n - (intOf i).toNat)
  case atStart => exact ⟨0, Nat.zero_le _, rfl, rfl, rfl, rfl, rfl⟩
  case round =>
    obtain ⟨k, hk, rfl, rfl, rfl, rfl, rfl⟩ := hrel
    by_cases hlt : k < n
    · have HV := (unhide V k hlt).next (unhide HB)
      have HP := (unhide P k (by omega)).next (unhide HB)
      have bX := unhide hX k hk
      have bY := unhide hY k hk
      have bO := unhide hO k hk
      have nX := unhide hX (k + 1) hlt
      have nY := unhide hY (k + 1) hlt
      have nO := unhide hO (k + 1) hlt
      have bw := unhide hw k hlt
      have bp := unhide hpx k hlt
      have bq := unhide hpy k hlt
      have m1 := mul_bd (A := 512) (X := 8388608) (by omega) bw.2 bp.1 bp.2
      have m2 := mul_bd (A := 512) (X := 8388608) (by omega) bw.2 bq.1 bq.2
      have eX : Hid (wsum wf (fun i => (pf i).1) (k + 1) = wsum wf (fun i => (pf i).1) k + wf k * (pf k).1) := rfl
      have eY : Hid (wsum wf (fun i => (pf i).2) (k + 1) = wsum wf (fun i => (pf i).2) k + wf k * (pf k).2) := rfl
      have eO : Hid (wsum wf (fun _ => 1) (k + 1) = wsum wf (fun _ => 1) k + wf k) := wone k
      rw [unhide eX] at nX
      rw [unhide eY] at nY
      rw [unhide eO] at nO
      generalize wsum wf (fun i => (pf i).1) k = X at bX nX eX ⊢
      generalize wsum wf (fun i => (pf i).2) k = Y at bY nY eY ⊢
      generalize wsum wf (fun _ => 1) k = O at bO nO eO ⊢
      generalize wf k = z at HV bw m1 m2 nX nY nO eX eY eO
      generalize pf k = p at HP bp bq m1 m2 nX nY eX eY
      obtain ⟨x0, y0⟩ := p
      obtain ⟨s, o, rfl, g0, g1⟩ := HP
      obtain ⟨s', o', rfl, g2⟩ := HV
      dsimp only at *
      have u1 : IntKind.i64.wrap (z * x0) = z * x0 := IntWalk.i64_in _ (by omega)
      have u2 : IntKind.i64.wrap (z * y0) = z * y0 := IntWalk.i64_in _ (by omega)
      have u3 : IntKind.i64.wrap (X + z * x0) = X + z * x0 := IntWalk.i64_in _ (by omega)
      have u4 : IntKind.i64.wrap (Y + z * y0) = Y + z * y0 := IntWalk.i64_in _ (by omega)
      have u5 : IntKind.i64.wrap (O + z) = O + z := IntWalk.i64_in _ (by omega)
      have hlm : (k : Int) < m := by omega
      clear bX bY bO nX nY nO bw bp bq m1 m2
      go_wp2_with fail
      go_roundw
      case rel => exact ⟨k + 1, hlt, by go_num, by rw [unhide eX], by rw [unhide eY], by rw [unhide eO], (by first | rfl | trivial)⟩
      case measure => simp [intOf]; omega
    · have hke : k = n := by omega
      subst hke
      have bX := unhide hX k hk
      have bY := unhide hY k hk
      have bO := unhide hO k hk
      obtain ⟨X, eX⟩ : ∃ X, X = wsum wf (fun i => (pf i).1) k := ⟨_, rfl⟩
      obtain ⟨Y, eY⟩ : ∃ Y, Y = wsum wf (fun i => (pf i).2) k := ⟨_, rfl⟩
      obtain ⟨O, eO⟩ : ∃ O, O = wsum wf (fun _ => 1) k := ⟨_, rfl⟩
      rw [← eX] at bX
      rw [← eY] at bY
      rw [← eO] at bO
      rw [← eX, ← eY, ← eO]
      have E1 := hide (implRoundDiv_any X O (by omega) (by omega) (by omega))
      have E2 := hide (implRoundDiv_any Y O (by omega) (by omega) (by omega))
      obtain ⟨qx, ex⟩ : ∃ q, q = rdivI X O := ⟨_, rfl⟩
      obtain ⟨qy, ey⟩ : ∃ q, q = rdivI Y O := ⟨_, rfl⟩
      rw [← ex] at E1
      rw [← ey] at E2
      have EE : Hid (Ending.returned (Value.agg #[Value.int IntKind.i64 qx, Value.int IntKind.i64 qy]) = Ending.returned (.agg #[.int .i64 (rdivI (wsum wf (fun i => (pf i).1) k) (wsum wf (fun _ => 1) k)), .int .i64 (rdivI (wsum wf (fun i => (pf i).2) k) (wsum wf (fun _ => 1) k))])) := by unfold Hid; rw [ex, ey, eX, eY, eO]
      clear ex ey eX eY eO
      clear bX bY bO
      go_wp2_with fail
      go_fit (unhide E1 _)
      rintro r w1 ⟨rfl, hb1⟩
      replace R := hide (row_next hb1 (unhide R))
      replace HB := hide (below_two (unhide HB) hb1)
      clear hb1
      go_wp2_with fail
      go_fit (unhide E2 _)
      rintro r w2 ⟨rfl, hb2⟩
      replace R := row_next hb2 (unhide R)
      replace HB := hide (below_two (unhide HB) hb2)
      clear hb2
      obtain ⟨r0, r1⟩ := row2 R
      obtain ⟨f0, f1⟩ := free2 R
      clear R
      go_wp2_with fail
      refine bodyPost_ret (v := .agg #[.int .i64 qx, .int .i64 qy]) (by simp [results, Tryz.results196, go_sem, r0, r1]) rfl ⟨unhide EE, ?_⟩
      exact below_put2 (unhide HB) (Nat.le_refl _) _ _
end Go.Proofs.YtfnbemmlafmjlaaGreat

/-
  Lines for curves: what both sides reckon, and lists of lists of points in memory.
-/
namespace Go.Proofs.YtfnbemmlafmjlaaGreat
open Go.RowKit

abbrev Pt := Int × Int
def lastP (l : List Pt) : Pt := l.getLastD (0, 0)
def firstP (l : List Pt) : Pt := l.headD (0, 0)
def quadL (a b c : Pt) : List Pt := (List.range 4).map fun (k : Nat) => quadP a b c ((k : Int) + 1)
def cubicL (a b c d : Pt) : List Pt := (List.range 8).map fun (k : Nat) => cubicP a b c d ((k : Int) + 1)
/-- What a verb but MoveTo adds to a line. -/
def addL (v : Int) (pf : Nat → Pt) (j : Nat) (l : List Pt) : List Pt :=
  if v = 2 then [pf j] else if v = 3 then quadL (lastP l) (pf j) (pf (j + 1)) else if v = 4 then cubicL (lastP l) (pf j) (pf (j + 1)) (pf (j + 2)) else if firstP l = lastP l then [] else [firstP l]
/-- The lines behind k verbs: those that are done, and the one under way. -/
def flatN (vf : Nat → Int) (pf : Nat → Pt) : Nat → List (List Pt) × List Pt
  | 0 => ([], [])
  | k + 1 => if vf k = 1 then (if k = 0 then [] else (flatN vf pf k).1 ++ [(flatN vf pf k).2], [pf (needN vf k)]) else ((flatN vf pf k).1, (flatN vf pf k).2 ++ addL (vf k) pf (needN vf k) (flatN vf pf k).2)
def flatL (x : Bool) (vf : Nat → Int) (pf : Nat → Pt) (n : Nat) : List (List Pt) := if x = true ∧ 0 < n then (flatN vf pf n).1 ++ [(flatN vf pf n).2] else []

theorem addL_len (v : Int) (pf : Nat → Pt) (j : Nat) (l : List Pt) : (addL v pf j l).length ≤ 8 := by
  unfold addL quadL cubicL; repeat' split
  all_goals simp
theorem flat_len (vf : Nat → Int) (pf : Nat → Pt) : ∀ k, (flatN vf pf k).1.length ≤ k ∧ (flatN vf pf k).2.length ≤ 8 * k
  | 0 => by simp [flatN]
  | k + 1 => by
    have h := flat_len vf pf k
    have h2 := addL_len (vf k) pf (needN vf k) (flatN vf pf k).2
    simp only [flatN]
    split
    · split <;> simp <;> omega
    · simp; omega
theorem flat_len1 (vf : Nat → Int) (pf : Nat → Pt) : ∀ k, ∀ l ∈ (flatN vf pf k).1, l.length ≤ 8 * k
  | 0 => by simp [flatN]
  | k + 1 => by
    have h := flat_len1 vf pf k
    have h2 := (flat_len vf pf k).2
    intro l hl
    simp only [flatN] at hl
    split at hl
    · split at hl
      · simp at hl
      · simp at hl
        rcases hl with hl | rfl
        · have := h l hl; omega
        · omega
    · have := h l hl; omega
/-- A line under way has a point. -/
theorem flat_pos {vf : Nat → Int} {pf : Nat → Pt} {n : Nat} (hv : ∀ j, j < n → VOk vf j) : ∀ k, k ≤ n → 0 < k → 0 < (flatN vf pf k).2.length
  | 0, _, h => absurd h (by omega)
  | k + 1, hk, _ => by
    simp only [flatN]
    split
    · simp
    · rename_i hne
      have h0 : 0 < k := by
        rcases Nat.eq_zero_or_pos k with rfl | h
        · exact absurd ((hv 0 (by omega)).2 (.inl rfl)) hne
        · exact h
      have := flat_pos (pf := pf) hv k (by omega) h0
      simp; omega
theorem quad_right {a b c : Pt} (ha : pointOkB a.1 a.2 = true) (hb : pointOkB b.1 b.2 = true) (hc : pointOkB c.1 c.2 = true) (i : Int) (hi : 0 ≤ i ∧ i ≤ 4) : quadP a b c i = (quadI a.1 b.1 c.1 i, quadI a.2 b.2 c.2 i) ∧ pointOkB (quadP a b c i).1 (quadP a b c i).2 = true := by
  have e : quadP a b c i = (quadI a.1 b.1 c.1 i, quadI a.2 b.2 c.2 i) := by
    unfold quadP; rw [if_pos (by unfold quadOk; rw [ha, hb, hc]; rfl), show clampI i 0 4 = i by unfold clampI; rw [if_neg (by omega), if_neg (by omega)]]
  refine ⟨e, ?_⟩
  rw [e]
  obtain ⟨⟨a1, a2⟩, a3, a4⟩ := point_bd ha
  obtain ⟨⟨b1, b2⟩, b3, b4⟩ := point_bd hb
  obtain ⟨⟨c1, c2⟩, c3, c4⟩ := point_bd hc
  have X := quad_in hi a1 a2 b1 b2 c1 c2
  have Y := quad_in hi a3 a4 b3 b4 c3 c4
  simp only [pointOkB, inB, Bool.and_eq_true, decide_eq_true_eq]
  omega
theorem cubic_right {a b c d : Pt} (ha : pointOkB a.1 a.2 = true) (hb : pointOkB b.1 b.2 = true) (hc : pointOkB c.1 c.2 = true) (hd : pointOkB d.1 d.2 = true) (i : Int) (hi : 0 ≤ i ∧ i ≤ 8) : cubicP a b c d i = (cubicI a.1 b.1 c.1 d.1 i, cubicI a.2 b.2 c.2 d.2 i) ∧ pointOkB (cubicP a b c d i).1 (cubicP a b c d i).2 = true := by
  have e : cubicP a b c d i = (cubicI a.1 b.1 c.1 d.1 i, cubicI a.2 b.2 c.2 d.2 i) := by
    unfold cubicP; rw [if_pos (by unfold cubicOk; rw [ha, hb, hc, hd]; rfl), show clampI i 0 8 = i by unfold clampI; rw [if_neg (by omega), if_neg (by omega)]]
  refine ⟨e, ?_⟩
  rw [e]
  obtain ⟨⟨a1, a2⟩, a3, a4⟩ := point_bd ha
  obtain ⟨⟨b1, b2⟩, b3, b4⟩ := point_bd hb
  obtain ⟨⟨c1, c2⟩, c3, c4⟩ := point_bd hc
  obtain ⟨⟨d1, d2⟩, d3, d4⟩ := point_bd hd
  have X := cubic_in hi a1 a2 b1 b2 c1 c2 d1 d2
  have Y := cubic_in hi a3 a4 b3 b4 c3 c4 d3 d4
  simp only [pointOkB, inB, Bool.and_eq_true, decide_eq_true_eq]
  omega

/-- Lists of points in memory, one behind another: each is the call's own, and each lies behind those ahead of it. -/
structure Lines (u : World) (base : Nat) (vs : List Value) (L : List (List Pt)) : Prop where
  len : vs.length = L.length
  own : ∀ (i : Nat) v l, vs[i]? = some v → L[i]? = some l → u.ownsRow base 38 2 v l.length (ptsV l)
  up : ∀ (i j : Nat) v v', i < j → vs[i]? = some v → vs[j]? = some v' → ∀ x y, v.ownBlock = some x → v'.ownBlock = some y → x < y
theorem Lines.nil (u : World) (base : Nat) : Lines u base [] [] := ⟨rfl, fun i v l h => by simp at h, fun i j v v' _ h => by simp at h⟩
theorem Lines.next {u u' : World} {base : Nat} {vs : List Value} {L : List (List Pt)} (h : Lines u base vs L) (hb : Below u.heap.size u u') : Lines u' base vs L :=
  ⟨h.len, fun i v l h1 h2 => own_below (h.own i v l h1 h2) hb, h.up⟩
theorem Lines.low {u : World} {base base' : Nat} {vs : List Value} {L : List (List Pt)} (h : Lines u base vs L) (hb : base' ≤ base) : Lines u base' vs L :=
  ⟨h.len, fun i v l h1 h2 => own_low (h.own i v l h1 h2) hb, h.up⟩
/-- All blocks lie below B. -/
def Under (B : Nat) (vs : List Value) : Prop := ∀ v ∈ vs, ∀ k, v.ownBlock = some k → k < B
theorem Lines.kept {u u' : World} {base B : Nat} {vs : List Value} {L : List (List Pt)} (h : Lines u base vs L) (hb : Below B u u') (hu : Under B vs) : Lines u' base vs L :=
  ⟨h.len, fun i v l h1 h2 => own_part (h.own i v l h1 h2) hb (hu v (List.mem_of_getElem? h1)), h.up⟩
theorem Lines.push {u : World} {base B : Nat} {vs : List Value} {L : List (List Pt)} {v : Value} {l : List Pt} (h : Lines u base vs L) (ho : u.ownsRow B 38 2 v l.length (ptsV l)) (hB : base ≤ B) (hu : Under B vs) : Lines u base (vs ++ [v]) (L ++ [l]) := by
  refine ⟨by simp [h.len], ?_, ?_⟩
  · intro i x y h1 h2
    by_cases hi : i < vs.length
    · rw [List.getElem?_append_left hi] at h1
      rw [List.getElem?_append_left (by rw [← h.len]; exact hi)] at h2
      exact h.own i x y h1 h2
    · have e : i = vs.length := by have := (List.getElem?_eq_some_iff.1 h1).1; simp at this; omega
      subst e
      rw [List.getElem?_concat_length] at h1
      rw [h.len, List.getElem?_concat_length] at h2
      cases h1; cases h2
      exact own_low ho hB
  · intro i j x y hij h1 h2 a b ha hb
    have hj := (List.getElem?_eq_some_iff.1 h2).1
    rw [List.length_append, List.length_singleton] at hj
    have hi : i < vs.length := by omega
    rw [List.getElem?_append_left hi] at h1
    by_cases hjl : j < vs.length
    · rw [List.getElem?_append_left hjl] at h2
      exact h.up i j x y hij h1 h2 a b ha hb
    · have e : j = vs.length := by omega
      subst e
      rw [List.getElem?_concat_length] at h2
      cases h2
      have h3 := hu x (List.mem_of_getElem? h1) a ha
      have h4 := (ho.lt b hb).1
      omega
/-- A list of lists that a call hands back. -/
def LinesV (u : World) (base : Nat) (v : Value) (L : List (List Pt)) : Prop := ∃ vs, u.ownsRow base 32 1 v L.length vs ∧ Lines u base vs L
theorem LinesV.next {u u' : World} {base : Nat} {v : Value} {L : List (List Pt)} (h : LinesV u base v L) (hb : Below u.heap.size u u') : LinesV u' base v L :=
  let ⟨vs, h1, h2⟩ := h; ⟨vs, own_below h1 hb, h2.next hb⟩
theorem LinesV.low {u : World} {base base' : Nat} {v : Value} {L : List (List Pt)} (h : LinesV u base v L) (hb : base' ≤ base) : LinesV u base' v L :=
  let ⟨vs, h1, h2⟩ := h; ⟨vs, own_low h1 hb, h2.low hb⟩
end Go.Proofs.YtfnbemmlafmjlaaGreat

/-
  What grows while a line is drawn on.
-/
namespace Go.Proofs.YtfnbemmlafmjlaaGreat
open Go.RowKit
set_option linter.unusedVariables false

/-- Whatever is not made of points stands as it stood. -/
def KeepT (w w' : World) : Prop := ∀ (b : Nat) cs t f, w.heap[b]? = some (.cells cs t f) → t ≠ 38 → w'.heap[b]? = some (.cells cs t f)
theorem KeepT.refl (w : World) : KeepT w w := fun _ _ _ _ h _ => h
theorem KeepT.trans {a b c : World} (h : KeepT a b) (k : KeepT b c) : KeepT a c := fun x cs t f h1 h2 => k x cs t f (h x cs t f h1 h2) h2
theorem KeepT.of_below {w w' : World} (h : Below w.heap.size w w') : KeepT w w' := fun b cs t f h1 _ => (h.block b (heap_lt h1)).trans h1
theorem KeepT.of_grown {w w' : World} {base n s : Nat} {v : Value} {xs : List Value} (ho : w.ownsRow base 38 s v n xs) (hg : w.grownBy w' v.ownBlock) : KeepT w w' := by
  intro b cs t f h1 h2
  refine (hg.block b (heap_lt h1) ?_).trans h1
  intro e
  rcases ho.2 with ⟨rfl, _⟩ | ⟨g, cap, cur, rfl, _, h3, _⟩
  · simp [Value.ownBlock] at e
  · simp only [Value.ownBlock, Option.some.injEq] at e
    subst e
    rw [h1] at h3
    injection h3 with h3
    injection h3 with _ h4
    exact h2 h4
theorem KeepT.own {w w' : World} (h : KeepT w w') {base e s n : Nat} {v : Value} {xs : List Value} (ho : w.ownsRow base e s v n xs) (he : e ≠ 38) : w'.ownsRow base e s v n xs := by
  obtain ⟨h1, h2⟩ := ho
  refine ⟨h1, ?_⟩
  rcases h2 with h2 | ⟨g, cap, cur, e1, e2, h3, h4⟩
  · exact .inl h2
  · exact .inr ⟨g, cap, cur, e1, e2, h _ _ _ _ h3 he, h4⟩
/-- 'append' of one point onto a line. -/
theorem wpList_append_pk {P : Program} {ops : Array Oper} {rest : List Oper} {o : Oper} {a : Act} {Q : Exit → Act → World → Prop} (wr : World) (hgd : o.guard = none) (s x : Operand) (t : TypeId)
    (ho : o.op = .call { callee := .builtin .append, args := #[s, x], argTypes := #[t, t] })
    (base : Nat) (i : TypeInfo) (z : Value) (bytes : Nat) (ht : P.underlying t = some (.slice 38)) (hi : P.info? 38 = some i) (hz : i.zero = some z) (hsize : i.size = 2) (hby : i.bytes = bytes) (hz1 : z.cells.size = 2)
    (v : Value) (l : List (Int × Int)) (hs : a.eval s = v) (hown : wr.ownsRow base 38 2 v l.length (ptsV l))
    (p q : Int) (c : Nat) (hx : a.eval x = .slice (some ⟨wr.heap.size, 0, none⟩) 1 c)
    (h63 : l.length + 1 ≤ maxLen) (hlen : (l.length + 1) * bytes ≤ 140737488355328) (hbase : base ≤ wr.heap.size)
    (h : ∀ v' w', w'.ownsRow base 38 2 v' (l ++ [(p, q)]).length (ptsV (l ++ [(p, q)])) → Below base wr w' → KeepT wr w' → wpList P ops Q rest (a.put o.dst v') w') :
    wpList P ops Q (o :: rest) a (wr.alloc (.cells #[.int .i64 p, .int .i64 q] 38)) := by
  refine wpList_append_own (wr.alloc (.cells #[.int .i64 p, .int .i64 q] 38)) hgd s x t ho base 38 i z 2 bytes ht hi hz hsize hby hz1 (by decide) v l.length (ptsV l) hs (hown.alloc _) ⟨wr.heap.size, 0, none⟩ 1 c (ptV (p, q)) hx (by simp [ptV]) (pt_cells wr p q _) (pt_one p q) h63 hlen (by simp; omega) ?_
  intro v' w' ho' hg _
  refine h v' w' ?_ ?_ ?_
  · have e1 : (l ++ [(p, q)]).length = l.length + 1 := by simp
    have e2 : ptsV (l ++ [(p, q)]) = ptsV l ++ ptV (p, q) := by rw [ptsV_app]; simp [ptsV]
    rw [e1, e2]; exact ho'
  · exact ((Below.refl base wr).alloc hbase _).grown hg (by simp; omega) (fun k hk => (hown.lt k hk).1)
  · exact (KeepT.of_below (al1_below _ _)).trans (KeepT.of_grown (hown.alloc _) hg)
end Go.Proofs.YtfnbemmlafmjlaaGreat

/-
  Rows of five and six new blocks.
-/
namespace Go.Proofs.YtfnbemmlafmjlaaGreat
open Go.RowKit

theorem al5_0 (w : World) (A B C D E : Obj) : (((((w.alloc A).alloc B).alloc C).alloc D).alloc E).heap[w.heap.size]? = some A := (heap_alloc_old _ _ (by rw [al4_size]; omega)).trans (al4_0 w A B C D)
theorem al5_1 (w : World) (A B C D E : Obj) : (((((w.alloc A).alloc B).alloc C).alloc D).alloc E).heap[w.heap.size + 1]? = some B := (heap_alloc_old _ _ (by rw [al4_size]; omega)).trans (al4_1 w A B C D)
theorem al5_2 (w : World) (A B C D E : Obj) : (((((w.alloc A).alloc B).alloc C).alloc D).alloc E).heap[w.heap.size + 1 + 1]? = some C := (heap_alloc_old _ _ (by rw [al4_size]; omega)).trans (al4_2 w A B C D)
theorem al5_3 (w : World) (A B C D E : Obj) : (((((w.alloc A).alloc B).alloc C).alloc D).alloc E).heap[w.heap.size + 1 + 1 + 1]? = some D := (heap_alloc_old _ _ (by rw [al4_size]; omega)).trans (al4_3 w A B C D)
theorem al5_4 (w : World) (A B C D E : Obj) : (((((w.alloc A).alloc B).alloc C).alloc D).alloc E).heap[w.heap.size + 1 + 1 + 1 + 1]? = some E := by have h := heap_alloc_new ((((w.alloc A).alloc B).alloc C).alloc D) E; rw [al4_size] at h; exact h
theorem al5_below (w : World) (A B C D E : Obj) : Below w.heap.size w (((((w.alloc A).alloc B).alloc C).alloc D).alloc E) := (al4_below w A B C D).alloc (by rw [al4_size]; omega) _

end Go.Proofs.YtfnbemmlafmjlaaGreat

/-
  The program's points on curves.
-/
namespace Go.Proofs.YtfnbemmlafmjlaaGreat
open Go.RowKit

set_option maxHeartbeats 8000000 in
set_option maxRecDepth 100000 in
theorem implQuadM_any (x0 y0 x1 y1 x2 y2 : Int) (h : quadOk (x0, y0) (x1, y1) (x2, y2) = true) (i : Int) (hi : 0 ≤ i ∧ i ≤ 4) (w : World) :
    Calls Tryz.prog 195 #[.agg #[.int .i64 x0, .int .i64 y0, .int .i64 x1, .int .i64 y1, .int .i64 x2, .int .i64 y2], .int .i64 i] w fun r w' => r = .returned (.agg #[.int .i64 (quadI x0 x1 x2 i), .int .i64 (quadI y0 y1 y2 i)]) ∧ Below w.heap.size w w' := by
  have hh := h
  simp only [quadOk, Bool.and_eq_true] at hh
  obtain ⟨g0, g1, g2⟩ := hh
  obtain ⟨⟨a0, b0⟩, ⟨c0, d0⟩⟩ := point_bd g0
  obtain ⟨⟨a1, b1⟩, ⟨c1, d1⟩⟩ := point_bd g1
  obtain ⟨⟨a2, b2⟩, ⟨c2, d2⟩⟩ := point_bd g2
  obtain ⟨k0, k1, k2, k3, m0, m1, m2, hsum⟩ : (0 ≤ (4 - i) * (4 - i) ∧ (4 - i) * (4 - i) ≤ 1536) ∧ (0 ≤ 2 * i ∧ 2 * i ≤ 1536) ∧ (0 ≤ 2 * i * (4 - i) ∧ 2 * i * (4 - i) ≤ 1536) ∧ (0 ≤ i * i ∧ i * i ≤ 1536) ∧ ((4 - i) * (4 - i) ≤ 512) ∧ (2 * i * (4 - i) ≤ 512) ∧ (i * i ≤ 512) ∧ (4 - i) * (4 - i) + 2 * i * (4 - i) + i * i = 16 := by
    rcases four_cases hi with rfl | rfl | rfl | rfl | rfl <;> decide
  have E := hide (fun u A B V P => implWeighed_any (fun j => ([(x0, y0), (x1, y1), (x2, y2)] : List (Int × Int)).getD j (0, 0)) (fun j => ([(4 - i) * (4 - i), 2 * i * (4 - i), i * i] : List Int).getD j 0) A B 3 3 3 3 (by decide) (by decide) (fun j hj => match j, hj with | 0, _ => ⟨k0.1, m0⟩ | 1, _ => ⟨k2.1, m1⟩ | 2, _ => ⟨k3.1, m2⟩) (fun j hj => match j, hj with | 0, _ => ⟨a0, b0⟩ | 1, _ => ⟨a1, b1⟩ | 2, _ => ⟨a2, b2⟩) (fun j hj => match j, hj with | 0, _ => ⟨c0, d0⟩ | 1, _ => ⟨c1, d1⟩ | 2, _ => ⟨c2, d2⟩) u V P)
  have EX : rdivI (wsum (fun j => ([(4 - i) * (4 - i), 2 * i * (4 - i), i * i] : List Int).getD j 0) (fun i => ((fun j => ([(x0, y0), (x1, y1), (x2, y2)] : List (Int × Int)).getD j (0, 0)) i).1) 3) (wsum (fun j => ([(4 - i) * (4 - i), 2 * i * (4 - i), i * i] : List Int).getD j 0) (fun _ => 1) 3) = quadI x0 x1 x2 i := by
    show rdivI (0 + (4 - i) * (4 - i) * x0 + 2 * i * (4 - i) * x1 + i * i * x2) (0 + (4 - i) * (4 - i) * 1 + 2 * i * (4 - i) * 1 + i * i * 1) = rdivI ((4 - i) * (4 - i) * x0 + 2 * i * (4 - i) * x1 + i * i * x2) 16
    rw [Int.zero_add, show (0 + (4 - i) * (4 - i) * 1 + 2 * i * (4 - i) * 1 + i * i * 1 : Int) = 16 by omega]
  have EY : rdivI (wsum (fun j => ([(4 - i) * (4 - i), 2 * i * (4 - i), i * i] : List Int).getD j 0) (fun i => ((fun j => ([(x0, y0), (x1, y1), (x2, y2)] : List (Int × Int)).getD j (0, 0)) i).2) 3) (wsum (fun j => ([(4 - i) * (4 - i), 2 * i * (4 - i), i * i] : List Int).getD j 0) (fun _ => 1) 3) = quadI y0 y1 y2 i := by
    show rdivI (0 + (4 - i) * (4 - i) * y0 + 2 * i * (4 - i) * y1 + i * i * y2) (0 + (4 - i) * (4 - i) * 1 + 2 * i * (4 - i) * 1 + i * i * 1) = rdivI ((4 - i) * (4 - i) * y0 + 2 * i * (4 - i) * y1 + i * i * y2) 16
    rw [Int.zero_add, show (0 + (4 - i) * (4 - i) * 1 + 2 * i * (4 - i) * 1 + i * i * 1 : Int) = 16 by omega]
  rw [EX, EY] at E
  clear EX EY
  have u00 : IntKind.i64.wrap (4 - i) = (4 - i) := IntWalk.i64_in _ (by omega)
  have u0 : IntKind.i64.wrap ((4 - i) * (4 - i)) = (4 - i) * (4 - i) := IntWalk.i64_in _ (by omega)
  have u1 : IntKind.i64.wrap (2 * i) = 2 * i := IntWalk.i64_in _ (by omega)
  have u2 : IntKind.i64.wrap (2 * i * (4 - i)) = 2 * i * (4 - i) := IntWalk.i64_in _ (by omega)
  have u3 : IntKind.i64.wrap (i * i) = i * i := IntWalk.i64_in _ (by omega)
  clear a0 b0 c0 d0 g0 m0 a1 b1 c1 d1 g1 m1 a2 b2 c2 d2 g2 m2 hsum h k0 k1 k2 k3
  generalize quadI x0 x1 x2 i = X at E ⊢
  generalize quadI y0 y1 y2 i = Y at E ⊢
  go_enter Tryz.func195, Tryz.ntmps195
  go_wp2_with fail
  obtain ⟨W, hW⟩ : ∃ W, W = ((w.alloc (.cells #[.int .i64 x0, .int .i64 y0, .int .i64 x1, .int .i64 y1, .int .i64 x2, .int .i64 y2] 197)).alloc (.cells #[.int .i64 0, .int .i64 0] 38)).alloc (.cells #[.int .i64 ((4 - i) * (4 - i)), .int .i64 (2 * i * (4 - i)), .int .i64 (i * i)] 3) := ⟨_, rfl⟩
  have A := hide (show W.heap[w.heap.size]? = some (.cells #[.int .i64 x0, .int .i64 y0, .int .i64 x1, .int .i64 y1, .int .i64 x2, .int .i64 y2] 197 (0, 0)) by rw [hW]; exact al3_0 _ _ _ _)
  have R := hide (show W.heap[w.heap.size + 1]? = some (.cells #[.int .i64 0, .int .i64 0] 38 (0, 0)) by rw [hW]; exact al3_1 _ _ _ _)
  have C := hide (show W.heap[w.heap.size + 1 + 1]? = some (.cells #[.int .i64 ((4 - i) * (4 - i)), .int .i64 (2 * i * (4 - i)), .int .i64 (i * i)] 3 (0, 0)) by rw [hW]; exact al3_2 _ _ _ _)
  have HB := hide (show Below w.heap.size w W by rw [hW]; exact al3_below _ _ _ _)
  rw [← hW]
  clear hW
  go_fit (unhide E _ _ _ (fun j hj => match j, hj with | 0, _ => ⟨_, 0, rfl, cell_of_row _ _ _ _ _ _ (unhide C)⟩ | 1, _ => ⟨_, 0, rfl, cell_of_row _ _ _ _ _ _ (unhide C)⟩ | 2, _ => ⟨_, 0, rfl, cell_of_row _ _ _ _ _ _ (unhide C)⟩) (fun j hj => match j, hj with | 0, _ => ⟨_, 0, rfl, cell_of_row _ _ _ _ _ _ (unhide A), cell_of_row _ _ _ _ _ _ (unhide A)⟩ | 1, _ => ⟨_, 0, rfl, cell_of_row _ _ _ _ _ _ (unhide A), cell_of_row _ _ _ _ _ _ (unhide A)⟩ | 2, _ => ⟨_, 0, rfl, cell_of_row _ _ _ _ _ _ (unhide A), cell_of_row _ _ _ _ _ _ (unhide A)⟩))
  rintro r w1 ⟨rfl, hb⟩
  replace R := row_next hb (unhide R)
  replace HB := hide (below_two (unhide HB) hb)
  clear hb A C
  obtain ⟨r0, r1⟩ := row2 R
  obtain ⟨f0, f1⟩ := free2 R
  clear R
  go_wp2_with fail
  refine bodyPost_ret (v := .agg #[.int .i64 X, .int .i64 Y]) (by simp [results, Tryz.results195, go_sem, r0, r1]) rfl ⟨rfl, ?_⟩
  exact below_put2 (unhide HB) (by omega) _ _

set_option maxHeartbeats 8000000 in
set_option maxRecDepth 100000 in
theorem implCubicM_any (x0 y0 x1 y1 x2 y2 x3 y3 : Int) (h : cubicOk (x0, y0) (x1, y1) (x2, y2) (x3, y3) = true) (i : Int) (hi : 0 ≤ i ∧ i ≤ 8) (w : World) :
    Calls Tryz.prog 197 #[.agg #[.int .i64 x0, .int .i64 y0, .int .i64 x1, .int .i64 y1, .int .i64 x2, .int .i64 y2, .int .i64 x3, .int .i64 y3], .int .i64 i] w fun r w' => r = .returned (.agg #[.int .i64 (cubicI x0 x1 x2 x3 i), .int .i64 (cubicI y0 y1 y2 y3 i)]) ∧ Below w.heap.size w w' := by
  have hh := h
  simp only [cubicOk, Bool.and_eq_true] at hh
  obtain ⟨g0, g1, g2, g3⟩ := hh
  obtain ⟨⟨a0, b0⟩, ⟨c0, d0⟩⟩ := point_bd g0
  obtain ⟨⟨a1, b1⟩, ⟨c1, d1⟩⟩ := point_bd g1
  obtain ⟨⟨a2, b2⟩, ⟨c2, d2⟩⟩ := point_bd g2
  obtain ⟨⟨a3, b3⟩, ⟨c3, d3⟩⟩ := point_bd g3
  obtain ⟨k0, k1, k2, k3, k4, k5, k6, k7, k8, m0, m1, m2, m3, hsum⟩ : (0 ≤ (8 - i) * (8 - i) ∧ (8 - i) * (8 - i) ≤ 1536) ∧ (0 ≤ (8 - i) * (8 - i) * (8 - i) ∧ (8 - i) * (8 - i) * (8 - i) ≤ 1536) ∧ (0 ≤ 3 * i ∧ 3 * i ≤ 1536) ∧ (0 ≤ 3 * i * (8 - i) ∧ 3 * i * (8 - i) ≤ 1536) ∧ (0 ≤ 3 * i * (8 - i) * (8 - i) ∧ 3 * i * (8 - i) * (8 - i) ≤ 1536) ∧ (0 ≤ 3 * i * i ∧ 3 * i * i ≤ 1536) ∧ (0 ≤ 3 * i * i * (8 - i) ∧ 3 * i * i * (8 - i) ≤ 1536) ∧ (0 ≤ i * i ∧ i * i ≤ 1536) ∧ (0 ≤ i * i * i ∧ i * i * i ≤ 1536) ∧ ((8 - i) * (8 - i) * (8 - i) ≤ 512) ∧ (3 * i * (8 - i) * (8 - i) ≤ 512) ∧ (3 * i * i * (8 - i) ≤ 512) ∧ (i * i * i ≤ 512) ∧ (8 - i) * (8 - i) * (8 - i) + 3 * i * (8 - i) * (8 - i) + 3 * i * i * (8 - i) + i * i * i = 512 := by
    rcases eight_cases hi with rfl | rfl | rfl | rfl | rfl | rfl | rfl | rfl | rfl <;> decide
  have E := hide (fun u A B V P => implWeighed_any (fun j => ([(x0, y0), (x1, y1), (x2, y2), (x3, y3)] : List (Int × Int)).getD j (0, 0)) (fun j => ([(8 - i) * (8 - i) * (8 - i), 3 * i * (8 - i) * (8 - i), 3 * i * i * (8 - i), i * i * i] : List Int).getD j 0) A B 4 4 4 4 (by decide) (by decide) (fun j hj => match j, hj with | 0, _ => ⟨k1.1, m0⟩ | 1, _ => ⟨k4.1, m1⟩ | 2, _ => ⟨k6.1, m2⟩ | 3, _ => ⟨k8.1, m3⟩) (fun j hj => match j, hj with | 0, _ => ⟨a0, b0⟩ | 1, _ => ⟨a1, b1⟩ | 2, _ => ⟨a2, b2⟩ | 3, _ => ⟨a3, b3⟩) (fun j hj => match j, hj with | 0, _ => ⟨c0, d0⟩ | 1, _ => ⟨c1, d1⟩ | 2, _ => ⟨c2, d2⟩ | 3, _ => ⟨c3, d3⟩) u V P)
  have EX : rdivI (wsum (fun j => ([(8 - i) * (8 - i) * (8 - i), 3 * i * (8 - i) * (8 - i), 3 * i * i * (8 - i), i * i * i] : List Int).getD j 0) (fun i => ((fun j => ([(x0, y0), (x1, y1), (x2, y2), (x3, y3)] : List (Int × Int)).getD j (0, 0)) i).1) 4) (wsum (fun j => ([(8 - i) * (8 - i) * (8 - i), 3 * i * (8 - i) * (8 - i), 3 * i * i * (8 - i), i * i * i] : List Int).getD j 0) (fun _ => 1) 4) = cubicI x0 x1 x2 x3 i := by
    show rdivI (0 + (8 - i) * (8 - i) * (8 - i) * x0 + 3 * i * (8 - i) * (8 - i) * x1 + 3 * i * i * (8 - i) * x2 + i * i * i * x3) (0 + (8 - i) * (8 - i) * (8 - i) * 1 + 3 * i * (8 - i) * (8 - i) * 1 + 3 * i * i * (8 - i) * 1 + i * i * i * 1) = rdivI ((8 - i) * (8 - i) * (8 - i) * x0 + 3 * i * (8 - i) * (8 - i) * x1 + 3 * i * i * (8 - i) * x2 + i * i * i * x3) 512
    rw [Int.zero_add, show (0 + (8 - i) * (8 - i) * (8 - i) * 1 + 3 * i * (8 - i) * (8 - i) * 1 + 3 * i * i * (8 - i) * 1 + i * i * i * 1 : Int) = 512 by omega]
  have EY : rdivI (wsum (fun j => ([(8 - i) * (8 - i) * (8 - i), 3 * i * (8 - i) * (8 - i), 3 * i * i * (8 - i), i * i * i] : List Int).getD j 0) (fun i => ((fun j => ([(x0, y0), (x1, y1), (x2, y2), (x3, y3)] : List (Int × Int)).getD j (0, 0)) i).2) 4) (wsum (fun j => ([(8 - i) * (8 - i) * (8 - i), 3 * i * (8 - i) * (8 - i), 3 * i * i * (8 - i), i * i * i] : List Int).getD j 0) (fun _ => 1) 4) = cubicI y0 y1 y2 y3 i := by
    show rdivI (0 + (8 - i) * (8 - i) * (8 - i) * y0 + 3 * i * (8 - i) * (8 - i) * y1 + 3 * i * i * (8 - i) * y2 + i * i * i * y3) (0 + (8 - i) * (8 - i) * (8 - i) * 1 + 3 * i * (8 - i) * (8 - i) * 1 + 3 * i * i * (8 - i) * 1 + i * i * i * 1) = rdivI ((8 - i) * (8 - i) * (8 - i) * y0 + 3 * i * (8 - i) * (8 - i) * y1 + 3 * i * i * (8 - i) * y2 + i * i * i * y3) 512
    rw [Int.zero_add, show (0 + (8 - i) * (8 - i) * (8 - i) * 1 + 3 * i * (8 - i) * (8 - i) * 1 + 3 * i * i * (8 - i) * 1 + i * i * i * 1 : Int) = 512 by omega]
  rw [EX, EY] at E
  clear EX EY
  have u00 : IntKind.i64.wrap (8 - i) = (8 - i) := IntWalk.i64_in _ (by omega)
  have u0 : IntKind.i64.wrap ((8 - i) * (8 - i)) = (8 - i) * (8 - i) := IntWalk.i64_in _ (by omega)
  have u1 : IntKind.i64.wrap ((8 - i) * (8 - i) * (8 - i)) = (8 - i) * (8 - i) * (8 - i) := IntWalk.i64_in _ (by omega)
  have u2 : IntKind.i64.wrap (3 * i) = 3 * i := IntWalk.i64_in _ (by omega)
  have u3 : IntKind.i64.wrap (3 * i * (8 - i)) = 3 * i * (8 - i) := IntWalk.i64_in _ (by omega)
  have u4 : IntKind.i64.wrap (3 * i * (8 - i) * (8 - i)) = 3 * i * (8 - i) * (8 - i) := IntWalk.i64_in _ (by omega)
  have u5 : IntKind.i64.wrap (3 * i * i) = 3 * i * i := IntWalk.i64_in _ (by omega)
  have u6 : IntKind.i64.wrap (3 * i * i * (8 - i)) = 3 * i * i * (8 - i) := IntWalk.i64_in _ (by omega)
  have u7 : IntKind.i64.wrap (i * i) = i * i := IntWalk.i64_in _ (by omega)
  have u8 : IntKind.i64.wrap (i * i * i) = i * i * i := IntWalk.i64_in _ (by omega)
  clear a0 b0 c0 d0 g0 m0 a1 b1 c1 d1 g1 m1 a2 b2 c2 d2 g2 m2 a3 b3 c3 d3 g3 m3 hsum h k0 k1 k2 k3 k4 k5 k6 k7 k8
  generalize cubicI x0 x1 x2 x3 i = X at E ⊢
  generalize cubicI y0 y1 y2 y3 i = Y at E ⊢
  go_enter Tryz.func197, Tryz.ntmps197
  go_wp2_with fail
  obtain ⟨W, hW⟩ : ∃ W, W = ((w.alloc (.cells #[.int .i64 x0, .int .i64 y0, .int .i64 x1, .int .i64 y1, .int .i64 x2, .int .i64 y2, .int .i64 x3, .int .i64 y3] 198)).alloc (.cells #[.int .i64 0, .int .i64 0] 38)).alloc (.cells #[.int .i64 ((8 - i) * (8 - i) * (8 - i)), .int .i64 (3 * i * (8 - i) * (8 - i)), .int .i64 (3 * i * i * (8 - i)), .int .i64 (i * i * i)] 3) := ⟨_, rfl⟩
  have A := hide (show W.heap[w.heap.size]? = some (.cells #[.int .i64 x0, .int .i64 y0, .int .i64 x1, .int .i64 y1, .int .i64 x2, .int .i64 y2, .int .i64 x3, .int .i64 y3] 198 (0, 0)) by rw [hW]; exact al3_0 _ _ _ _)
  have R := hide (show W.heap[w.heap.size + 1]? = some (.cells #[.int .i64 0, .int .i64 0] 38 (0, 0)) by rw [hW]; exact al3_1 _ _ _ _)
  have C := hide (show W.heap[w.heap.size + 1 + 1]? = some (.cells #[.int .i64 ((8 - i) * (8 - i) * (8 - i)), .int .i64 (3 * i * (8 - i) * (8 - i)), .int .i64 (3 * i * i * (8 - i)), .int .i64 (i * i * i)] 3 (0, 0)) by rw [hW]; exact al3_2 _ _ _ _)
  have HB := hide (show Below w.heap.size w W by rw [hW]; exact al3_below _ _ _ _)
  rw [← hW]
  clear hW
  go_fit (unhide E _ _ _ (fun j hj => match j, hj with | 0, _ => ⟨_, 0, rfl, cell_of_row _ _ _ _ _ _ (unhide C)⟩ | 1, _ => ⟨_, 0, rfl, cell_of_row _ _ _ _ _ _ (unhide C)⟩ | 2, _ => ⟨_, 0, rfl, cell_of_row _ _ _ _ _ _ (unhide C)⟩ | 3, _ => ⟨_, 0, rfl, cell_of_row _ _ _ _ _ _ (unhide C)⟩) (fun j hj => match j, hj with | 0, _ => ⟨_, 0, rfl, cell_of_row _ _ _ _ _ _ (unhide A), cell_of_row _ _ _ _ _ _ (unhide A)⟩ | 1, _ => ⟨_, 0, rfl, cell_of_row _ _ _ _ _ _ (unhide A), cell_of_row _ _ _ _ _ _ (unhide A)⟩ | 2, _ => ⟨_, 0, rfl, cell_of_row _ _ _ _ _ _ (unhide A), cell_of_row _ _ _ _ _ _ (unhide A)⟩ | 3, _ => ⟨_, 0, rfl, cell_of_row _ _ _ _ _ _ (unhide A), cell_of_row _ _ _ _ _ _ (unhide A)⟩))
  rintro r w1 ⟨rfl, hb⟩
  replace R := row_next hb (unhide R)
  replace HB := hide (below_two (unhide HB) hb)
  clear hb A C
  obtain ⟨r0, r1⟩ := row2 R
  obtain ⟨f0, f1⟩ := free2 R
  clear R
  go_wp2_with fail
  refine bodyPost_ret (v := .agg #[.int .i64 X, .int .i64 Y]) (by simp [results, Tryz.results197, go_sem, r0, r1]) rfl ⟨rfl, ?_⟩
  exact below_put2 (unhide HB) (by omega) _ _

end Go.Proofs.YtfnbemmlafmjlaaGreat

/-
  The program's curves behind their interface, and the lines that are drawn on.
-/
namespace Go.Proofs.YtfnbemmlafmjlaaGreat
open Go.RowKit
set_option linter.unusedVariables false

theorem ta_quad_quad (v : Value) (w : World) : (Instr.typeAssert (.iface 197 v) 188 197 true).run Tryz.prog w = .ok (.tuple #[v, .bool true]) w := by kernel_rfl
theorem ta_quad_cubic (v : Value) (w : World) : (Instr.typeAssert (.iface 197 v) 188 198 true).run Tryz.prog w = .ok (.tuple #[.agg #[.int .i64 0, .int .i64 0, .int .i64 0, .int .i64 0, .int .i64 0, .int .i64 0, .int .i64 0, .int .i64 0], .bool false]) w := by kernel_rfl
theorem ta_quad_closing (v : Value) (w : World) : (Instr.typeAssert (.iface 197 v) 188 200 true).run Tryz.prog w = .ok (.tuple #[.agg #[.int .i64 0, .int .i64 0, .int .i64 0, .int .i64 0], .bool false]) w := by kernel_rfl
theorem me_quad (f : Nat) (v : Value) (w : World) : (method (f + 1) 197 v "loop.example/g00190/impl.at").run Tryz.prog w = .ok (195, v) w := by kernel_rfl
theorem ta_cubic_quad (v : Value) (w : World) : (Instr.typeAssert (.iface 198 v) 188 197 true).run Tryz.prog w = .ok (.tuple #[.agg #[.int .i64 0, .int .i64 0, .int .i64 0, .int .i64 0, .int .i64 0, .int .i64 0], .bool false]) w := by kernel_rfl
theorem ta_cubic_cubic (v : Value) (w : World) : (Instr.typeAssert (.iface 198 v) 188 198 true).run Tryz.prog w = .ok (.tuple #[v, .bool true]) w := by kernel_rfl
theorem ta_cubic_closing (v : Value) (w : World) : (Instr.typeAssert (.iface 198 v) 188 200 true).run Tryz.prog w = .ok (.tuple #[.agg #[.int .i64 0, .int .i64 0, .int .i64 0, .int .i64 0], .bool false]) w := by kernel_rfl
theorem me_cubic (f : Nat) (v : Value) (w : World) : (method (f + 1) 198 v "loop.example/g00190/impl.at").run Tryz.prog w = .ok (197, v) w := by kernel_rfl
theorem ta_closing_quad (v : Value) (w : World) : (Instr.typeAssert (.iface 200 v) 188 197 true).run Tryz.prog w = .ok (.tuple #[.agg #[.int .i64 0, .int .i64 0, .int .i64 0, .int .i64 0, .int .i64 0, .int .i64 0], .bool false]) w := by kernel_rfl
theorem ta_closing_cubic (v : Value) (w : World) : (Instr.typeAssert (.iface 200 v) 188 198 true).run Tryz.prog w = .ok (.tuple #[.agg #[.int .i64 0, .int .i64 0, .int .i64 0, .int .i64 0, .int .i64 0, .int .i64 0, .int .i64 0, .int .i64 0], .bool false]) w := by kernel_rfl
theorem ta_closing_closing (v : Value) (w : World) : (Instr.typeAssert (.iface 200 v) 188 200 true).run Tryz.prog w = .ok (.tuple #[v, .bool true]) w := by kernel_rfl
theorem me_closing (f : Nat) (v : Value) (w : World) : (method (f + 1) 200 v "loop.example/g00190/impl.at").run Tryz.prog w = .ok (198, v) w := by kernel_rfl
theorem ta_straight_quad (v : Value) (w : World) : (Instr.typeAssert (.iface 202 v) 188 197 true).run Tryz.prog w = .ok (.tuple #[.agg #[.int .i64 0, .int .i64 0, .int .i64 0, .int .i64 0, .int .i64 0, .int .i64 0], .bool false]) w := by kernel_rfl
theorem ta_straight_cubic (v : Value) (w : World) : (Instr.typeAssert (.iface 202 v) 188 198 true).run Tryz.prog w = .ok (.tuple #[.agg #[.int .i64 0, .int .i64 0, .int .i64 0, .int .i64 0, .int .i64 0, .int .i64 0, .int .i64 0, .int .i64 0], .bool false]) w := by kernel_rfl
theorem ta_straight_closing (v : Value) (w : World) : (Instr.typeAssert (.iface 202 v) 188 200 true).run Tryz.prog w = .ok (.tuple #[.agg #[.int .i64 0, .int .i64 0, .int .i64 0, .int .i64 0], .bool false]) w := by kernel_rfl
theorem me_straight (f : Nat) (v : Value) (w : World) : (method (f + 1) 202 v "loop.example/g00190/impl.at").run Tryz.prog w = .ok (199, v) w := by kernel_rfl

attribute [local go_sem ↓] ta_quad_quad ta_quad_cubic ta_quad_closing me_quad ta_cubic_quad ta_cubic_cubic ta_cubic_closing me_cubic ta_closing_quad ta_closing_cubic ta_closing_closing me_closing ta_straight_quad ta_straight_cubic ta_straight_closing me_straight eqlPoint in
set_option maxHeartbeats 4000000 in
set_option maxRecDepth 100000 in
theorem steps_quad (x0 y0 x1 y1 x2 y2 : Int) (w : World) :
    Calls Tryz.prog 173 #[.iface 197 (.agg #[.int .i64 x0, .int .i64 y0, .int .i64 x1, .int .i64 y1, .int .i64 x2, .int .i64 y2])] w fun r w' => r = .returned (.int .i64 4) ∧ Below w.heap.size w w' := by
  go_enter Tryz.func173, Tryz.ntmps173
  go_wp2_with fail
  go_ret
  exact ⟨rfl, al1_below _ _⟩

attribute [local go_sem ↓] ta_quad_quad ta_quad_cubic ta_quad_closing me_quad ta_cubic_quad ta_cubic_cubic ta_cubic_closing me_cubic ta_closing_quad ta_closing_cubic ta_closing_closing me_closing ta_straight_quad ta_straight_cubic ta_straight_closing me_straight eqlPoint in
set_option maxHeartbeats 4000000 in
set_option maxRecDepth 100000 in
theorem steps_cubic (x0 y0 x1 y1 x2 y2 x3 y3 : Int) (w : World) :
    Calls Tryz.prog 173 #[.iface 198 (.agg #[.int .i64 x0, .int .i64 y0, .int .i64 x1, .int .i64 y1, .int .i64 x2, .int .i64 y2, .int .i64 x3, .int .i64 y3])] w fun r w' => r = .returned (.int .i64 8) ∧ Below w.heap.size w w' := by
  go_enter Tryz.func173, Tryz.ntmps173
  go_wp2_with fail
  go_ret
  exact ⟨rfl, al1_below _ _⟩

attribute [local go_sem ↓] ta_quad_quad ta_quad_cubic ta_quad_closing me_quad ta_cubic_quad ta_cubic_cubic ta_cubic_closing me_cubic ta_closing_quad ta_closing_cubic ta_closing_closing me_closing ta_straight_quad ta_straight_cubic ta_straight_closing me_straight eqlPoint in
set_option maxHeartbeats 4000000 in
set_option maxRecDepth 100000 in
theorem steps_closing (x0 y0 x1 y1 : Int) (w : World) :
    Calls Tryz.prog 173 #[.iface 200 (.agg #[.int .i64 x0, .int .i64 y0, .int .i64 x1, .int .i64 y1])] w fun r w' => r = .returned (.int .i64 (if x0 = x1 ∧ y0 = y1 then 0 else 1)) ∧ Below w.heap.size w w' := by
  by_cases h : x0 = x1 ∧ y0 = y1
  · rw [if_pos h]
    obtain ⟨rfl, rfl⟩ := h
    go_enter Tryz.func173, Tryz.ntmps173
    go_wp2_with fail
    go_ret
    exact ⟨rfl, al1_below _ _⟩
  · rw [if_neg h]
    have hd : (decide (x0 = x1) && decide (y0 = y1)) = false := by simpa using h
    replace h := hide h
    go_enter Tryz.func173, Tryz.ntmps173
    go_wp2_with fail
    go_ret
    exact ⟨rfl, al1_below _ _⟩

attribute [local go_sem ↓] ta_quad_quad ta_quad_cubic ta_quad_closing me_quad ta_cubic_quad ta_cubic_cubic ta_cubic_closing me_cubic ta_closing_quad ta_closing_cubic ta_closing_closing me_closing ta_straight_quad ta_straight_cubic ta_straight_closing me_straight eqlPoint in
set_option maxHeartbeats 4000000 in
set_option maxRecDepth 100000 in
theorem steps_straight (x0 y0 : Int) (w : World) :
    Calls Tryz.prog 173 #[.iface 202 (.agg #[.int .i64 x0, .int .i64 y0])] w fun r w' => r = .returned (.int .i64 1) ∧ Below w.heap.size w w' := by
  go_enter Tryz.func173, Tryz.ntmps173
  go_wp2_with fail
  go_ret
  exact ⟨rfl, Below.refl _ _⟩

set_option maxHeartbeats 4000000 in
set_option maxRecDepth 100000 in
theorem at_closing (x0 y0 x1 y1 i : Int) (w : World) :
    Calls Tryz.prog 198 #[.agg #[.int .i64 x0, .int .i64 y0, .int .i64 x1, .int .i64 y1], .int .i64 i] w fun r w' => r = .returned (.agg #[.int .i64 x1, .int .i64 y1]) ∧ Below w.heap.size w w' := by
  go_enter Tryz.func198, Tryz.ntmps198
  go_wp2_with fail
  obtain ⟨r0, r1⟩ := row2 (al2_1 w (.cells #[.int .i64 x0, .int .i64 y0, .int .i64 x1, .int .i64 y1] 200) (.cells #[.int .i64 x1, .int .i64 y1] 38))
  refine bodyPost_ret (v := .agg #[.int .i64 x1, .int .i64 y1]) (by simp [results, Tryz.results198, go_sem, r0, r1]) rfl ⟨rfl, al2_below _ _ _⟩

set_option maxHeartbeats 4000000 in
set_option maxRecDepth 100000 in
theorem at_straight (x0 y0 i : Int) (w : World) :
    Calls Tryz.prog 199 #[.agg #[.int .i64 x0, .int .i64 y0], .int .i64 i] w fun r w' => r = .returned (.agg #[.int .i64 x0, .int .i64 y0]) ∧ Below w.heap.size w w' := by
  go_enter Tryz.func199, Tryz.ntmps199
  go_wp2_with fail
  obtain ⟨r0, r1⟩ := row2 (al2_1 w (.cells #[.int .i64 x0, .int .i64 y0] 202) (.cells #[.int .i64 x0, .int .i64 y0] 38))
  refine bodyPost_ret (v := .agg #[.int .i64 x0, .int .i64 y0]) (by simp [results, Tryz.results199, go_sem, r0, r1]) rfl ⟨rfl, al2_below _ _ _⟩

theorem range_more {α : Type} (l : List α) (f : Nat → α) (k : Nat) : l ++ (List.range (k + 1)).map f = (l ++ (List.range k).map f) ++ [f k] := by
  rw [List.range_succ, List.map_append, List.append_assoc]; rfl

attribute [local go_sem ↓] ta_quad_quad ta_quad_cubic ta_quad_closing me_quad ta_cubic_quad ta_cubic_cubic ta_cubic_closing me_cubic ta_closing_quad ta_closing_cubic ta_closing_closing me_closing ta_straight_quad ta_straight_cubic ta_straight_closing me_straight eqlPoint in
set_option maxHeartbeats 4000000 in
set_option maxRecDepth 100000 in
theorem drawn_quad (x0 y0 x1 y1 x2 y2 : Int) (hok : ∀ p ∈ [(x0, y0), (x1, y1), (x2, y2)], pointOkB p.1 p.2 = true) (base : Nat) (v : Value) (l : List Pt) (hl : l.length ≤ 1000) (w : World) (hb : base ≤ w.heap.size) (ho : w.ownsRow base 38 2 v l.length (ptsV l)) :
    Calls Tryz.prog 160 #[v, .iface 197 (.agg #[.int .i64 x0, .int .i64 y0, .int .i64 x1, .int .i64 y1, .int .i64 x2, .int .i64 y2])] w fun r w' => ∃ v', r = .returned v' ∧ w'.ownsRow base 38 2 v' (l ++ (List.range 4).map (fun k : Nat => quadP (x0, y0) (x1, y1) (x2, y2) ((k : Int) + 1))).length (ptsV (l ++ (List.range 4).map (fun k : Nat => quadP (x0, y0) (x1, y1) (x2, y2) ((k : Int) + 1)))) ∧ Below base w w' ∧ KeepT w w' := by
  obtain ⟨i2, hi2, hz2, hs2, hb2⟩ := info_parts infoPoint
  have HS := hide (fun u => steps_quad x0 y0 x1 y1 x2 y2 u)
  have h0 := hok (x0, y0) (by simp)
  have h1 := hok (x1, y1) (by simp)
  have h2 := hok (x2, y2) (by simp)
  have HA : Hid (∀ (k : Nat), k < 4 → ∀ u, Calls Tryz.prog 195 #[.agg #[.int .i64 x0, .int .i64 y0, .int .i64 x1, .int .i64 y1, .int .i64 x2, .int .i64 y2], .int .i64 ((k : Int) + 1)] u fun r w' => r = .returned (.agg #[.int .i64 ((fun k : Nat => quadP (x0, y0) (x1, y1) (x2, y2) ((k : Int) + 1)) k).1, .int .i64 ((fun k : Nat => quadP (x0, y0) (x1, y1) (x2, y2) ((k : Int) + 1)) k).2]) ∧ Below u.heap.size u w') := fun k hk u => by
    have e := (quad_right h0 h1 h2 ((k : Int) + 1) (by omega)).1
    dsimp only
    rw [e]
    exact implQuadM_any x0 y0 x1 y1 x2 y2 (by simp only [quadOk, Bool.and_eq_true]; exact ⟨h0, h1, h2⟩) _ (by omega) u
  generalize hf : (fun k : Nat => quadP (x0, y0) (x1, y1) (x2, y2) ((k : Int) + 1)) = f at HA ⊢
  clear hf
  obtain ⟨av, cv, rfl⟩ := own_form ho
  replace ho := hide ho
  go_enter Tryz.func160, Tryz.ntmps160
  go_wp2_with fail
  go_loopw [0, 5] (fun v i u => ∃ k : Nat, k ≤ 4 ∧ i = .int .i64 ((k : Int) + 1) ∧ Hid (u.ownsRow base 38 2 v (l ++ (List.range k).map f).length (ptsV (l ++ (List.range k).map f))) ∧ Hid (Below base w u) ∧ Hid (KeepT w u)) (fun _ i _ => 4 + 1 - (intOf i).toNat)
  case atStart => exact ⟨0, by omega, rfl, by simpa using ho, Below.refl _ _, KeepT.refl _⟩
  case round =>
    obtain ⟨k, hk, rfl, o1, b1, t1⟩ := hrel
    by_cases hlt : k < 4
    · have hlt' : (k : Int) + 1 ≤ 4 := by omega
      have d1 : decide ((k : Int) + 1 ≤ 4) = true := decide_eq_true hlt'
      have HK := hide (unhide HA k hlt)
      obtain ⟨L, hL⟩ : ∃ L, Hid (L = l ++ (List.range k).map f) := ⟨_, rfl⟩
      rw [← unhide hL] at o1
      have hLn : L.length ≤ 1010 := by rw [unhide hL]; simp; omega
      have hM : Hid (l ++ (List.range (k + 1)).map f = L ++ [f k]) := by unfold Hid; rw [range_more, unhide hL]
      generalize f k = p at HK hM
      obtain ⟨px, py⟩ := p
      obtain ⟨av, cv, rfl⟩ := own_form (unhide o1)
      go_wp2_with fail
      go_fit (unhide HS _)
      rintro r w1 ⟨rfl, hb1⟩
      replace o1 := hide (own_below (unhide o1) hb1)
      replace t1 := hide ((unhide t1).trans (KeepT.of_below hb1))
      replace b1 := hide (below_after hb1 (unhide b1) hb)
      clear hb1
      go_wp2_with fail
      go_fit (unhide HK _)
      rintro r w2 ⟨rfl, hb1⟩
      replace o1 := hide (own_below (unhide o1) hb1)
      replace t1 := hide ((unhide t1).trans (KeepT.of_below hb1))
      replace b1 := hide (below_after hb1 (unhide b1) hb)
      clear hb1
      go_wp2_with (at_builtin; go_must (refine wpList_append_pk w2 rfl _ _ 32 rfl base i2 (.agg #[.int .i64 0, .int .i64 0]) 16 Tryz.underlying32 hi2 hz2 hs2 hb2 rfl _ L (by rfl) (unhide o1) px py 1 (by rfl) (by unfold maxLen; omega) (by omega) (Nat.le_trans hb (unhide b1).size) ?_); intro v1 w3 ho3 hb3 ht3; have O3 := hide ho3; have B3 := hide hb3; have T3 := hide ht3; clear ho3 hb3 ht3)
      go_roundw
      case rel => exact ⟨k + 1, by omega, by go_num, by rw [unhide hM]; exact O3, (unhide b1).trans (unhide B3), (unhide t1).trans (unhide T3)⟩
      case measure => simp [intOf]; omega
    · have hke : k = 4 := by omega
      subst hke
      have d1 : decide ((((4 : Nat) : Int)) + 1 ≤ 4) = false := by decide
      obtain ⟨L, hL⟩ : ∃ L, Hid (L = l ++ (List.range 4).map f) := ⟨_, rfl⟩
      rw [← unhide hL] at o1
      obtain ⟨av, cv, ev⟩ := own_form (unhide o1)
      subst ev
      go_wp2_with fail
      go_fit (unhide HS _)
      rintro r w1 ⟨rfl, hb1⟩
      replace o1 := hide (own_below (unhide o1) hb1)
      replace t1 := hide ((unhide t1).trans (KeepT.of_below hb1))
      replace b1 := hide (below_after hb1 (unhide b1) hb)
      clear hb1
      go_wp2_with fail
      go_ret
      exact ⟨_, rfl, by rw [← unhide hL]; exact unhide o1, unhide b1, unhide t1⟩

attribute [local go_sem ↓] ta_quad_quad ta_quad_cubic ta_quad_closing me_quad ta_cubic_quad ta_cubic_cubic ta_cubic_closing me_cubic ta_closing_quad ta_closing_cubic ta_closing_closing me_closing ta_straight_quad ta_straight_cubic ta_straight_closing me_straight eqlPoint in
set_option maxHeartbeats 4000000 in
set_option maxRecDepth 100000 in
theorem drawn_cubic (x0 y0 x1 y1 x2 y2 x3 y3 : Int) (hok : ∀ p ∈ [(x0, y0), (x1, y1), (x2, y2), (x3, y3)], pointOkB p.1 p.2 = true) (base : Nat) (v : Value) (l : List Pt) (hl : l.length ≤ 1000) (w : World) (hb : base ≤ w.heap.size) (ho : w.ownsRow base 38 2 v l.length (ptsV l)) :
    Calls Tryz.prog 160 #[v, .iface 198 (.agg #[.int .i64 x0, .int .i64 y0, .int .i64 x1, .int .i64 y1, .int .i64 x2, .int .i64 y2, .int .i64 x3, .int .i64 y3])] w fun r w' => ∃ v', r = .returned v' ∧ w'.ownsRow base 38 2 v' (l ++ (List.range 8).map (fun k : Nat => cubicP (x0, y0) (x1, y1) (x2, y2) (x3, y3) ((k : Int) + 1))).length (ptsV (l ++ (List.range 8).map (fun k : Nat => cubicP (x0, y0) (x1, y1) (x2, y2) (x3, y3) ((k : Int) + 1)))) ∧ Below base w w' ∧ KeepT w w' := by
  obtain ⟨i2, hi2, hz2, hs2, hb2⟩ := info_parts infoPoint
  have HS := hide (fun u => steps_cubic x0 y0 x1 y1 x2 y2 x3 y3 u)
  have h0 := hok (x0, y0) (by simp)
  have h1 := hok (x1, y1) (by simp)
  have h2 := hok (x2, y2) (by simp)
  have h3 := hok (x3, y3) (by simp)
  have HA : Hid (∀ (k : Nat), k < 8 → ∀ u, Calls Tryz.prog 197 #[.agg #[.int .i64 x0, .int .i64 y0, .int .i64 x1, .int .i64 y1, .int .i64 x2, .int .i64 y2, .int .i64 x3, .int .i64 y3], .int .i64 ((k : Int) + 1)] u fun r w' => r = .returned (.agg #[.int .i64 ((fun k : Nat => cubicP (x0, y0) (x1, y1) (x2, y2) (x3, y3) ((k : Int) + 1)) k).1, .int .i64 ((fun k : Nat => cubicP (x0, y0) (x1, y1) (x2, y2) (x3, y3) ((k : Int) + 1)) k).2]) ∧ Below u.heap.size u w') := fun k hk u => by
    have e := (cubic_right h0 h1 h2 h3 ((k : Int) + 1) (by omega)).1
    dsimp only
    rw [e]
    exact implCubicM_any x0 y0 x1 y1 x2 y2 x3 y3 (by simp only [cubicOk, Bool.and_eq_true]; exact ⟨h0, h1, h2, h3⟩) _ (by omega) u
  generalize hf : (fun k : Nat => cubicP (x0, y0) (x1, y1) (x2, y2) (x3, y3) ((k : Int) + 1)) = f at HA ⊢
  clear hf
  obtain ⟨av, cv, rfl⟩ := own_form ho
  replace ho := hide ho
  go_enter Tryz.func160, Tryz.ntmps160
  go_wp2_with fail
  go_loopw [0, 5] (fun v i u => ∃ k : Nat, k ≤ 8 ∧ i = .int .i64 ((k : Int) + 1) ∧ Hid (u.ownsRow base 38 2 v (l ++ (List.range k).map f).length (ptsV (l ++ (List.range k).map f))) ∧ Hid (Below base w u) ∧ Hid (KeepT w u)) (fun _ i _ => 8 + 1 - (intOf i).toNat)
  case atStart => exact ⟨0, by omega, rfl, by simpa using ho, Below.refl _ _, KeepT.refl _⟩
  case round =>
    obtain ⟨k, hk, rfl, o1, b1, t1⟩ := hrel
    by_cases hlt : k < 8
    · have hlt' : (k : Int) + 1 ≤ 8 := by omega
      have d1 : decide ((k : Int) + 1 ≤ 8) = true := decide_eq_true hlt'
      have HK := hide (unhide HA k hlt)
      obtain ⟨L, hL⟩ : ∃ L, Hid (L = l ++ (List.range k).map f) := ⟨_, rfl⟩
      rw [← unhide hL] at o1
      have hLn : L.length ≤ 1010 := by rw [unhide hL]; simp; omega
      have hM : Hid (l ++ (List.range (k + 1)).map f = L ++ [f k]) := by unfold Hid; rw [range_more, unhide hL]
      generalize f k = p at HK hM
      obtain ⟨px, py⟩ := p
      obtain ⟨av, cv, rfl⟩ := own_form (unhide o1)
      go_wp2_with fail
      go_fit (unhide HS _)
      rintro r w1 ⟨rfl, hb1⟩
      replace o1 := hide (own_below (unhide o1) hb1)
      replace t1 := hide ((unhide t1).trans (KeepT.of_below hb1))
      replace b1 := hide (below_after hb1 (unhide b1) hb)
      clear hb1
      go_wp2_with fail
      go_fit (unhide HK _)
      rintro r w2 ⟨rfl, hb1⟩
      replace o1 := hide (own_below (unhide o1) hb1)
      replace t1 := hide ((unhide t1).trans (KeepT.of_below hb1))
      replace b1 := hide (below_after hb1 (unhide b1) hb)
      clear hb1
      go_wp2_with (at_builtin; go_must (refine wpList_append_pk w2 rfl _ _ 32 rfl base i2 (.agg #[.int .i64 0, .int .i64 0]) 16 Tryz.underlying32 hi2 hz2 hs2 hb2 rfl _ L (by rfl) (unhide o1) px py 1 (by rfl) (by unfold maxLen; omega) (by omega) (Nat.le_trans hb (unhide b1).size) ?_); intro v1 w3 ho3 hb3 ht3; have O3 := hide ho3; have B3 := hide hb3; have T3 := hide ht3; clear ho3 hb3 ht3)
      go_roundw
      case rel => exact ⟨k + 1, by omega, by go_num, by rw [unhide hM]; exact O3, (unhide b1).trans (unhide B3), (unhide t1).trans (unhide T3)⟩
      case measure => simp [intOf]; omega
    · have hke : k = 8 := by omega
      subst hke
      have d1 : decide ((((8 : Nat) : Int)) + 1 ≤ 8) = false := by decide
      obtain ⟨L, hL⟩ : ∃ L, Hid (L = l ++ (List.range 8).map f) := ⟨_, rfl⟩
      rw [← unhide hL] at o1
      obtain ⟨av, cv, ev⟩ := own_form (unhide o1)
      subst ev
      go_wp2_with fail
      go_fit (unhide HS _)
      rintro r w1 ⟨rfl, hb1⟩
      replace o1 := hide (own_below (unhide o1) hb1)
      replace t1 := hide ((unhide t1).trans (KeepT.of_below hb1))
      replace b1 := hide (below_after hb1 (unhide b1) hb)
      clear hb1
      go_wp2_with fail
      go_ret
      exact ⟨_, rfl, by rw [← unhide hL]; exact unhide o1, unhide b1, unhide t1⟩

attribute [local go_sem ↓] ta_quad_quad ta_quad_cubic ta_quad_closing me_quad ta_cubic_quad ta_cubic_cubic ta_cubic_closing me_cubic ta_closing_quad ta_closing_cubic ta_closing_closing me_closing ta_straight_quad ta_straight_cubic ta_straight_closing me_straight eqlPoint in
set_option maxHeartbeats 4000000 in
set_option maxRecDepth 100000 in
theorem drawn_closing (x0 y0 x1 y1 : Int) (hne : ¬ (x0 = x1 ∧ y0 = y1)) (base : Nat) (v : Value) (l : List Pt) (hl : l.length ≤ 1000) (w : World) (hb : base ≤ w.heap.size) (ho : w.ownsRow base 38 2 v l.length (ptsV l)) :
    Calls Tryz.prog 160 #[v, .iface 200 (.agg #[.int .i64 x0, .int .i64 y0, .int .i64 x1, .int .i64 y1])] w fun r w' => ∃ v', r = .returned v' ∧ w'.ownsRow base 38 2 v' (l ++ (List.range 1).map (fun _ : Nat => (x1, y1))).length (ptsV (l ++ (List.range 1).map (fun _ : Nat => (x1, y1)))) ∧ Below base w w' ∧ KeepT w w' := by
  obtain ⟨i2, hi2, hz2, hs2, hb2⟩ := info_parts infoPoint
  have HS := hide (fun u => steps_closing x0 y0 x1 y1 u)
  rw [if_neg hne] at HS
  have HA : Hid (∀ (k : Nat), k < 1 → ∀ u, Calls Tryz.prog 198 #[.agg #[.int .i64 x0, .int .i64 y0, .int .i64 x1, .int .i64 y1], .int .i64 ((k : Int) + 1)] u fun r w' => r = .returned (.agg #[.int .i64 ((fun _ : Nat => (x1, y1)) k).1, .int .i64 ((fun _ : Nat => (x1, y1)) k).2]) ∧ Below u.heap.size u w') := fun k hk u => at_closing x0 y0 x1 y1 _ u
  generalize hf : (fun _ : Nat => (x1, y1)) = f at HA ⊢
  clear hf
  obtain ⟨av, cv, rfl⟩ := own_form ho
  replace ho := hide ho
  go_enter Tryz.func160, Tryz.ntmps160
  go_wp2_with fail
  go_loopw [0, 5] (fun v i u => ∃ k : Nat, k ≤ 1 ∧ i = .int .i64 ((k : Int) + 1) ∧ Hid (u.ownsRow base 38 2 v (l ++ (List.range k).map f).length (ptsV (l ++ (List.range k).map f))) ∧ Hid (Below base w u) ∧ Hid (KeepT w u)) (fun _ i _ => 1 + 1 - (intOf i).toNat)
  case atStart => exact ⟨0, by omega, rfl, by simpa using ho, Below.refl _ _, KeepT.refl _⟩
  case round =>
    obtain ⟨k, hk, rfl, o1, b1, t1⟩ := hrel
    by_cases hlt : k < 1
    · have hlt' : (k : Int) + 1 ≤ 1 := by omega
      have d1 : decide ((k : Int) + 1 ≤ 1) = true := decide_eq_true hlt'
      have HK := hide (unhide HA k hlt)
      obtain ⟨L, hL⟩ : ∃ L, Hid (L = l ++ (List.range k).map f) := ⟨_, rfl⟩
      rw [← unhide hL] at o1
      have hLn : L.length ≤ 1010 := by rw [unhide hL]; simp; omega
      have hM : Hid (l ++ (List.range (k + 1)).map f = L ++ [f k]) := by unfold Hid; rw [range_more, unhide hL]
      generalize f k = p at HK hM
      obtain ⟨px, py⟩ := p
      obtain ⟨av, cv, rfl⟩ := own_form (unhide o1)
      go_wp2_with fail
      go_fit (unhide HS _)
      rintro r w1 ⟨rfl, hb1⟩
      replace o1 := hide (own_below (unhide o1) hb1)
      replace t1 := hide ((unhide t1).trans (KeepT.of_below hb1))
      replace b1 := hide (below_after hb1 (unhide b1) hb)
      clear hb1
      go_wp2_with fail
      go_fit (unhide HK _)
      rintro r w2 ⟨rfl, hb1⟩
      replace o1 := hide (own_below (unhide o1) hb1)
      replace t1 := hide ((unhide t1).trans (KeepT.of_below hb1))
      replace b1 := hide (below_after hb1 (unhide b1) hb)
      clear hb1
      go_wp2_with (at_builtin; go_must (refine wpList_append_pk w2 rfl _ _ 32 rfl base i2 (.agg #[.int .i64 0, .int .i64 0]) 16 Tryz.underlying32 hi2 hz2 hs2 hb2 rfl _ L (by rfl) (unhide o1) px py 1 (by rfl) (by unfold maxLen; omega) (by omega) (Nat.le_trans hb (unhide b1).size) ?_); intro v1 w3 ho3 hb3 ht3; have O3 := hide ho3; have B3 := hide hb3; have T3 := hide ht3; clear ho3 hb3 ht3)
      go_roundw
      case rel => exact ⟨k + 1, by omega, by go_num, by rw [unhide hM]; exact O3, (unhide b1).trans (unhide B3), (unhide t1).trans (unhide T3)⟩
      case measure => simp [intOf]; omega
    · have hke : k = 1 := by omega
      subst hke
      have d1 : decide ((((1 : Nat) : Int)) + 1 ≤ 1) = false := by decide
      obtain ⟨L, hL⟩ : ∃ L, Hid (L = l ++ (List.range 1).map f) := ⟨_, rfl⟩
      rw [← unhide hL] at o1
      obtain ⟨av, cv, ev⟩ := own_form (unhide o1)
      subst ev
      go_wp2_with fail
      go_fit (unhide HS _)
      rintro r w1 ⟨rfl, hb1⟩
      replace o1 := hide (own_below (unhide o1) hb1)
      replace t1 := hide ((unhide t1).trans (KeepT.of_below hb1))
      replace b1 := hide (below_after hb1 (unhide b1) hb)
      clear hb1
      go_wp2_with fail
      go_ret
      exact ⟨_, rfl, by rw [← unhide hL]; exact unhide o1, unhide b1, unhide t1⟩

attribute [local go_sem ↓] ta_quad_quad ta_quad_cubic ta_quad_closing me_quad ta_cubic_quad ta_cubic_cubic ta_cubic_closing me_cubic ta_closing_quad ta_closing_cubic ta_closing_closing me_closing ta_straight_quad ta_straight_cubic ta_straight_closing me_straight eqlPoint in
set_option maxHeartbeats 4000000 in
set_option maxRecDepth 100000 in
theorem drawn_closed (x0 y0 : Int) (v : Value) (w : World) (av : Option Addr) (n cv : Nat) (hv : v = .slice av n cv) :
    Calls Tryz.prog 160 #[v, .iface 200 (.agg #[.int .i64 x0, .int .i64 y0, .int .i64 x0, .int .i64 y0])] w fun r w' => r = .returned v ∧ Below w.heap.size w w' := by
  subst hv
  have HS := hide (fun u => steps_closing x0 y0 x0 y0 u)
  rw [if_pos ⟨rfl, rfl⟩] at HS
  go_enter Tryz.func160, Tryz.ntmps160
  go_wp2_with fail
  go_loopw [0, 5] (fun v i u => i = .int .i64 1 ∧ v = .slice av n cv ∧ u = w) (fun _ i _ => 0)
  case atStart => exact ⟨rfl, rfl, rfl⟩
  case round =>
    obtain ⟨rfl, rfl, rfl⟩ := hrel
    go_wp2_with fail
    go_fit (unhide HS _)
    rintro r w1 ⟨rfl, hb1⟩
    replace hb1 := hide hb1
    go_wp2_with fail
    go_ret
    exact ⟨rfl, unhide hb1⟩

attribute [local go_sem ↓] ta_quad_quad ta_quad_cubic ta_quad_closing me_quad ta_cubic_quad ta_cubic_cubic ta_cubic_closing me_cubic ta_closing_quad ta_closing_cubic ta_closing_closing me_closing ta_straight_quad ta_straight_cubic ta_straight_closing me_straight eqlPoint in
set_option maxHeartbeats 4000000 in
set_option maxRecDepth 100000 in
theorem drawn_straight (x0 y0 : Int) (base : Nat) (v : Value) (l : List Pt) (hl : l.length ≤ 1000) (w : World) (hb : base ≤ w.heap.size) (ho : w.ownsRow base 38 2 v l.length (ptsV l)) :
    Calls Tryz.prog 160 #[v, .iface 202 (.agg #[.int .i64 x0, .int .i64 y0])] w fun r w' => ∃ v', r = .returned v' ∧ w'.ownsRow base 38 2 v' (l ++ (List.range 1).map (fun _ : Nat => (x0, y0))).length (ptsV (l ++ (List.range 1).map (fun _ : Nat => (x0, y0)))) ∧ Below base w w' ∧ KeepT w w' := by
  obtain ⟨i2, hi2, hz2, hs2, hb2⟩ := info_parts infoPoint
  have HS := hide (fun u => steps_straight x0 y0 u)
  have HA : Hid (∀ (k : Nat), k < 1 → ∀ u, Calls Tryz.prog 199 #[.agg #[.int .i64 x0, .int .i64 y0], .int .i64 ((k : Int) + 1)] u fun r w' => r = .returned (.agg #[.int .i64 ((fun _ : Nat => (x0, y0)) k).1, .int .i64 ((fun _ : Nat => (x0, y0)) k).2]) ∧ Below u.heap.size u w') := fun k hk u => at_straight x0 y0 _ u
  generalize hf : (fun _ : Nat => (x0, y0)) = f at HA ⊢
  clear hf
  obtain ⟨av, cv, rfl⟩ := own_form ho
  replace ho := hide ho
  go_enter Tryz.func160, Tryz.ntmps160
  go_wp2_with fail
  go_loopw [0, 5] (fun v i u => ∃ k : Nat, k ≤ 1 ∧ i = .int .i64 ((k : Int) + 1) ∧ Hid (u.ownsRow base 38 2 v (l ++ (List.range k).map f).length (ptsV (l ++ (List.range k).map f))) ∧ Hid (Below base w u) ∧ Hid (KeepT w u)) (fun _ i _ => 1 + 1 - (intOf i).toNat)
  case atStart => exact ⟨0, by omega, rfl, by simpa using ho, Below.refl _ _, KeepT.refl _⟩
  case round =>
    obtain ⟨k, hk, rfl, o1, b1, t1⟩ := hrel
    by_cases hlt : k < 1
    · have hlt' : (k : Int) + 1 ≤ 1 := by omega
      have d1 : decide ((k : Int) + 1 ≤ 1) = true := decide_eq_true hlt'
      have HK := hide (unhide HA k hlt)
      obtain ⟨L, hL⟩ : ∃ L, Hid (L = l ++ (List.range k).map f) := ⟨_, rfl⟩
      rw [← unhide hL] at o1
      have hLn : L.length ≤ 1010 := by rw [unhide hL]; simp; omega
      have hM : Hid (l ++ (List.range (k + 1)).map f = L ++ [f k]) := by unfold Hid; rw [range_more, unhide hL]
      generalize f k = p at HK hM
      obtain ⟨px, py⟩ := p
      obtain ⟨av, cv, rfl⟩ := own_form (unhide o1)
      go_wp2_with fail
      go_fit (unhide HS _)
      rintro r w1 ⟨rfl, hb1⟩
      replace o1 := hide (own_below (unhide o1) hb1)
      replace t1 := hide ((unhide t1).trans (KeepT.of_below hb1))
      replace b1 := hide (below_after hb1 (unhide b1) hb)
      clear hb1
      go_wp2_with fail
      go_fit (unhide HK _)
      rintro r w2 ⟨rfl, hb1⟩
      replace o1 := hide (own_below (unhide o1) hb1)
      replace t1 := hide ((unhide t1).trans (KeepT.of_below hb1))
      replace b1 := hide (below_after hb1 (unhide b1) hb)
      clear hb1
      go_wp2_with (at_builtin; go_must (refine wpList_append_pk w2 rfl _ _ 32 rfl base i2 (.agg #[.int .i64 0, .int .i64 0]) 16 Tryz.underlying32 hi2 hz2 hs2 hb2 rfl _ L (by rfl) (unhide o1) px py 1 (by rfl) (by unfold maxLen; omega) (by omega) (Nat.le_trans hb (unhide b1).size) ?_); intro v1 w3 ho3 hb3 ht3; have O3 := hide ho3; have B3 := hide hb3; have T3 := hide ht3; clear ho3 hb3 ht3)
      go_roundw
      case rel => exact ⟨k + 1, by omega, by go_num, by rw [unhide hM]; exact O3, (unhide b1).trans (unhide B3), (unhide t1).trans (unhide T3)⟩
      case measure => simp [intOf]; omega
    · have hke : k = 1 := by omega
      subst hke
      have d1 : decide ((((1 : Nat) : Int)) + 1 ≤ 1) = false := by decide
      obtain ⟨L, hL⟩ : ∃ L, Hid (L = l ++ (List.range 1).map f) := ⟨_, rfl⟩
      rw [← unhide hL] at o1
      obtain ⟨av, cv, ev⟩ := own_form (unhide o1)
      subst ev
      go_wp2_with fail
      go_fit (unhide HS _)
      rintro r w1 ⟨rfl, hb1⟩
      replace o1 := hide (own_below (unhide o1) hb1)
      replace t1 := hide ((unhide t1).trans (KeepT.of_below hb1))
      replace b1 := hide (below_after hb1 (unhide b1) hb)
      clear hb1
      go_wp2_with fail
      go_ret
      exact ⟨_, rfl, by rw [← unhide hL]; exact unhide o1, unhide b1, unhide t1⟩

end Go.Proofs.YtfnbemmlafmjlaaGreat

/-
  The program's curveOf: the curve that a verb leads along.
-/
namespace Go.Proofs.YtfnbemmlafmjlaaGreat
open Go.RowKit
set_option linter.unusedVariables false

set_option maxHeartbeats 4000000 in
set_option maxRecDepth 100000 in
theorem curve_straight (tx0 ty0 fx fy lx ly : Int) (s o d : Nat) (g q c : Nat) (hq : q ≤ 1048576) (w : World) (t0 : w.cell? ⟨s, o + 0 * 2, none⟩ = some (.int .i64 tx0)) (u0 : w.cell? ⟨s, o + 0 * 2 + 1, none⟩ = some (.int .i64 ty0))
    (f0 : w.cell? ⟨g, 0, none⟩ = some (.int .i64 fx)) (f1 : w.cell? ⟨g, 1, none⟩ = some (.int .i64 fy)) (l0 : w.cell? ⟨g, q * 2, none⟩ = some (.int .i64 lx)) (l1 : w.cell? ⟨g, q * 2 + 1, none⟩ = some (.int .i64 ly)) :
    Calls Tryz.prog 161 #[.int .i64 2, .slice (some ⟨s, o, none⟩) 1 d, .slice (some ⟨g, 0, none⟩) (q + 1) c] w fun r w' => r = .returned (.iface 202 (.agg #[.int .i64 tx0, .int .i64 ty0])) ∧ Below w.heap.size w w' := by
  have a0 : w.cell? ⟨s, o, none⟩ = some (.int .i64 tx0) := by simpa using t0
  have b0 : w.cell? ⟨s, o + 1, none⟩ = some (.int .i64 ty0) := by simpa using u0
  clear t0 u0
  have na0 := fun o => kn o a0
  have nb0 := fun o => kn o b0
  have nf0 := fun o => kn o f0
  have nf1 := fun o => kn o f1
  have nl0 := fun o => kn o l0
  have nl1 := fun o => kn o l1
  have hw : IntKind.i64.wrap (((q + 1 : Nat) : Int) - 1) = (q : Int) := by rw [IntWalk.i64_in _ (by omega)]; omega
  have hw2 : ((q + 1 : Nat) : Int) - 1 = (q : Int) := by omega
  have hw3 : IntKind.i64.wrap (q : Int) = (q : Int) := IntWalk.i64_in _ (by omega)
  go_enter Tryz.func161, Tryz.ntmps161
  go_wp2_with fail
  go_ret
  exact ⟨rfl, al1_below _ _⟩

set_option maxHeartbeats 4000000 in
set_option maxRecDepth 100000 in
theorem curve_quad (tx0 ty0 tx1 ty1 fx fy lx ly : Int) (s o d : Nat) (g q c : Nat) (hq : q ≤ 1048576) (w : World) (t0 : w.cell? ⟨s, o + 0 * 2, none⟩ = some (.int .i64 tx0)) (u0 : w.cell? ⟨s, o + 0 * 2 + 1, none⟩ = some (.int .i64 ty0)) (t1 : w.cell? ⟨s, o + 1 * 2, none⟩ = some (.int .i64 tx1)) (u1 : w.cell? ⟨s, o + 1 * 2 + 1, none⟩ = some (.int .i64 ty1))
    (f0 : w.cell? ⟨g, 0, none⟩ = some (.int .i64 fx)) (f1 : w.cell? ⟨g, 1, none⟩ = some (.int .i64 fy)) (l0 : w.cell? ⟨g, q * 2, none⟩ = some (.int .i64 lx)) (l1 : w.cell? ⟨g, q * 2 + 1, none⟩ = some (.int .i64 ly)) :
    Calls Tryz.prog 161 #[.int .i64 3, .slice (some ⟨s, o, none⟩) 2 d, .slice (some ⟨g, 0, none⟩) (q + 1) c] w fun r w' => r = .returned (.iface 197 (.agg #[.int .i64 lx, .int .i64 ly, .int .i64 tx0, .int .i64 ty0, .int .i64 tx1, .int .i64 ty1])) ∧ Below w.heap.size w w' := by
  have a0 : w.cell? ⟨s, o, none⟩ = some (.int .i64 tx0) := by simpa using t0
  have b0 : w.cell? ⟨s, o + 1, none⟩ = some (.int .i64 ty0) := by simpa using u0
  have a1 : w.cell? ⟨s, o + 2, none⟩ = some (.int .i64 tx1) := by simpa using t1
  have b1 : w.cell? ⟨s, o + 3, none⟩ = some (.int .i64 ty1) := by simpa using u1
  clear t0 u0 t1 u1
  have na0 := fun o => kn o a0
  have nb0 := fun o => kn o b0
  have na1 := fun o => kn o a1
  have nb1 := fun o => kn o b1
  have nf0 := fun o => kn o f0
  have nf1 := fun o => kn o f1
  have nl0 := fun o => kn o l0
  have nl1 := fun o => kn o l1
  have hw : IntKind.i64.wrap (((q + 1 : Nat) : Int) - 1) = (q : Int) := by rw [IntWalk.i64_in _ (by omega)]; omega
  have hw2 : ((q + 1 : Nat) : Int) - 1 = (q : Int) := by omega
  have hw3 : IntKind.i64.wrap (q : Int) = (q : Int) := IntWalk.i64_in _ (by omega)
  go_enter Tryz.func161, Tryz.ntmps161
  go_upto_region 4 with fail
  go_quiet (fail)
  go_wp2_with fail
  go_ret
  exact ⟨rfl, below_drews (al1_below _ _) _⟩

set_option maxHeartbeats 4000000 in
set_option maxRecDepth 100000 in
theorem curve_cubic (tx0 ty0 tx1 ty1 tx2 ty2 fx fy lx ly : Int) (s o d : Nat) (g q c : Nat) (hq : q ≤ 1048576) (w : World) (t0 : w.cell? ⟨s, o + 0 * 2, none⟩ = some (.int .i64 tx0)) (u0 : w.cell? ⟨s, o + 0 * 2 + 1, none⟩ = some (.int .i64 ty0)) (t1 : w.cell? ⟨s, o + 1 * 2, none⟩ = some (.int .i64 tx1)) (u1 : w.cell? ⟨s, o + 1 * 2 + 1, none⟩ = some (.int .i64 ty1)) (t2 : w.cell? ⟨s, o + 2 * 2, none⟩ = some (.int .i64 tx2)) (u2 : w.cell? ⟨s, o + 2 * 2 + 1, none⟩ = some (.int .i64 ty2))
    (f0 : w.cell? ⟨g, 0, none⟩ = some (.int .i64 fx)) (f1 : w.cell? ⟨g, 1, none⟩ = some (.int .i64 fy)) (l0 : w.cell? ⟨g, q * 2, none⟩ = some (.int .i64 lx)) (l1 : w.cell? ⟨g, q * 2 + 1, none⟩ = some (.int .i64 ly)) :
    Calls Tryz.prog 161 #[.int .i64 4, .slice (some ⟨s, o, none⟩) 3 d, .slice (some ⟨g, 0, none⟩) (q + 1) c] w fun r w' => r = .returned (.iface 198 (.agg #[.int .i64 lx, .int .i64 ly, .int .i64 tx0, .int .i64 ty0, .int .i64 tx1, .int .i64 ty1, .int .i64 tx2, .int .i64 ty2])) ∧ Below w.heap.size w w' := by
  have a0 : w.cell? ⟨s, o, none⟩ = some (.int .i64 tx0) := by simpa using t0
  have b0 : w.cell? ⟨s, o + 1, none⟩ = some (.int .i64 ty0) := by simpa using u0
  have a1 : w.cell? ⟨s, o + 2, none⟩ = some (.int .i64 tx1) := by simpa using t1
  have b1 : w.cell? ⟨s, o + 3, none⟩ = some (.int .i64 ty1) := by simpa using u1
  have a2 : w.cell? ⟨s, o + 4, none⟩ = some (.int .i64 tx2) := by simpa using t2
  have b2 : w.cell? ⟨s, o + 5, none⟩ = some (.int .i64 ty2) := by simpa using u2
  clear t0 u0 t1 u1 t2 u2
  have na0 := fun o => kn o a0
  have nb0 := fun o => kn o b0
  have na1 := fun o => kn o a1
  have nb1 := fun o => kn o b1
  have na2 := fun o => kn o a2
  have nb2 := fun o => kn o b2
  have nf0 := fun o => kn o f0
  have nf1 := fun o => kn o f1
  have nl0 := fun o => kn o l0
  have nl1 := fun o => kn o l1
  have hw : IntKind.i64.wrap (((q + 1 : Nat) : Int) - 1) = (q : Int) := by rw [IntWalk.i64_in _ (by omega)]; omega
  have hw2 : ((q + 1 : Nat) : Int) - 1 = (q : Int) := by omega
  have hw3 : IntKind.i64.wrap (q : Int) = (q : Int) := IntWalk.i64_in _ (by omega)
  go_enter Tryz.func161, Tryz.ntmps161
  go_upto_region 6 with fail
  go_quiet (fail)
  go_wp2_with fail
  go_ret
  exact ⟨rfl, below_drews (al1_below _ _) _⟩

set_option maxHeartbeats 4000000 in
set_option maxRecDepth 100000 in
theorem curve_closing ( fx fy lx ly : Int) (tb : Option Addr) (d : Nat) (g q c : Nat) (hq : q ≤ 1048576) (w : World)
    (f0 : w.cell? ⟨g, 0, none⟩ = some (.int .i64 fx)) (f1 : w.cell? ⟨g, 1, none⟩ = some (.int .i64 fy)) (l0 : w.cell? ⟨g, q * 2, none⟩ = some (.int .i64 lx)) (l1 : w.cell? ⟨g, q * 2 + 1, none⟩ = some (.int .i64 ly)) :
    Calls Tryz.prog 161 #[.int .i64 5, .slice tb 0 d, .slice (some ⟨g, 0, none⟩) (q + 1) c] w fun r w' => r = .returned (.iface 200 (.agg #[.int .i64 lx, .int .i64 ly, .int .i64 fx, .int .i64 fy])) ∧ Below w.heap.size w w' := by
  have nf0 := fun o => kn o f0
  have nf1 := fun o => kn o f1
  have nl0 := fun o => kn o l0
  have nl1 := fun o => kn o l1
  have hw : IntKind.i64.wrap (((q + 1 : Nat) : Int) - 1) = (q : Int) := by rw [IntWalk.i64_in _ (by omega)]; omega
  have hw2 : ((q + 1 : Nat) : Int) - 1 = (q : Int) := by omega
  have hw3 : IntKind.i64.wrap (q : Int) = (q : Int) := IntWalk.i64_in _ (by omega)
  go_enter Tryz.func161, Tryz.ntmps161
  go_upto_region 8 with fail
  go_quiet (fail)
  go_wp2_with fail
  go_ret
  exact ⟨rfl, below_drews (al1_below _ _) _⟩

end Go.Proofs.YtfnbemmlafmjlaaGreat

/-
  Lists of lists of points while they grow.
-/
namespace Go.Proofs.YtfnbemmlafmjlaaGreat
open Go.RowKit
set_option linter.unusedVariables false

theorem infoPts : (Tryz.prog.info? 32).map (fun i => (i.zero, i.size, i.bytes)) = some (some (.slice none 0 0), 1, 24) := by kernel_rfl
theorem own_form3 {w : World} {base e s n : Nat} {v : Value} {xs : List Value} (h : w.ownsRow base e s v n xs) : ∃ a k c, v = .slice a k c := by
  obtain ⟨a, c, h⟩ := own_form h; exact ⟨a, _, c, h⟩
theorem grown_keep {u u' : World} {base n : Nat} {v : Value} {xs : List Value} (ho : u.ownsRow base 32 1 v n xs) (hg : u.grownBy u' v.ownBlock) {b e s k : Nat} {x : Value} {ys : List Value} (h : u.ownsRow b e s x k ys) (he : e ≠ 32) : u'.ownsRow b e s x k ys := by
  refine h.kept hg ?_
  rcases h.2 with ⟨rfl, _⟩ | ⟨g, cap, cur, rfl, _, h1, _⟩
  · exact .inl rfl
  · right
    rcases ho.2 with ⟨rfl, _⟩ | ⟨g', cap', cur', rfl, _, h2, _⟩
    · simp [Value.ownBlock]
    · intro e3
      simp only [Value.ownBlock, Option.some.injEq] at e3
      subst e3
      rw [h1] at h2
      injection h2 with h2
      injection h2 with _ h4
      exact he h4
theorem Under.own {u : World} {base : Nat} {vs : List Value} {L : List (List Pt)} (h : Lines u base vs L) : Under u.heap.size vs := by
  intro v hv k hk
  obtain ⟨i, hi, rfl⟩ := List.mem_iff_getElem.1 hv
  have hi' : i < L.length := by rw [← h.len]; exact hi
  exact ((h.own i _ _ (List.getElem?_eq_getElem hi) (List.getElem?_eq_getElem hi')).lt k hk).2
theorem last_pt {l : List Pt} {q : Nat} (h : l.length = q + 1) : lastP l = listP l q := by
  unfold lastP listP
  rw [List.getD_eq_getElem?_getD, List.getLastD_eq_getLast?, List.getLast?_eq_getElem?, h]; rfl
theorem first_pt {l : List Pt} {q : Nat} (h : l.length = q + 1) : firstP l = listP l 0 := by
  unfold firstP listP
  cases l with
  | nil => simp at h
  | cons a t => rfl
theorem lastP_mem {l : List Pt} (h : 0 < l.length) : lastP l ∈ l := by
  unfold lastP
  cases l with
  | nil => simp at h
  | cons a t => rw [List.getLastD_cons]; exact List.getLastD_mem_cons
theorem firstP_mem {l : List Pt} (h : 0 < l.length) : firstP l ∈ l := by
  unfold firstP
  cases l with
  | nil => simp at h
  | cons a t => simp
theorem grown_row {u u' : World} {base n : Nat} {v : Value} {xs : List Value} (ho : u.ownsRow base 32 1 v n xs) (hg : u.grownBy u' v.ownBlock) {b : Nat} {cs : Array Value} {t : TypeId} {f : Nat × Nat} (h : u.heap[b]? = some (.cells cs t f)) (he : t ≠ 32) : u'.heap[b]? = some (.cells cs t f) := by
  refine (hg.block b (heap_lt h) ?_).trans h
  intro e3
  rcases ho.2 with ⟨rfl, _⟩ | ⟨g', cap', cur', rfl, _, h2, _⟩
  · simp [Value.ownBlock] at e3
  · simp only [Value.ownBlock, Option.some.injEq] at e3
    subst e3
    rw [h] at h2
    injection h2 with h2
    injection h2 with _ h4
    exact he h4
theorem row_ne {u : World} {base n c g b : Nat} {xs : List Value} (ho : u.ownsRow base 32 1 (.slice (some ⟨g, 0, none⟩) n c) n xs) {cs : Array Value} {t : TypeId} {f : Nat × Nat} (h : u.heap[b]? = some (.cells cs t f)) (he : t ≠ 32) : b ≠ g := by
  intro e3
  subst e3
  rcases ho.2 with ⟨h4, _⟩ | ⟨g2, cap2, cur2, h4, _, hg2, _⟩
  · simp at h4
  · simp only [Value.slice.injEq, Option.some.injEq, Addr.mk.injEq] at h4
    obtain ⟨⟨rfl, _⟩, _⟩ := h4
    rw [h] at hg2
    injection hg2 with hg2
    injection hg2 with _ h5
    exact he h5
theorem own_big {u : World} {base e g k cap b : Nat} {xs : List Value} {x y : Value} {t : TypeId} (h : u.ownsRow base e 2 (.slice (some ⟨g, 0, none⟩) k cap) k xs) (hk : 2 ≤ k) (hr : u.heap[b]? = some (.cells #[x, y] t (0, 0))) : g ≠ b := by
  intro e1
  subst e1
  rcases h.2 with ⟨h4, _⟩ | ⟨g2, cap2, cur2, h4, _, hg2, h5, _, h6, _⟩
  · simp at h4
  · simp only [Value.slice.injEq, Option.some.injEq, Addr.mk.injEq] at h4
    obtain ⟨⟨rfl, _⟩, _, rfl⟩ := h4
    rw [hr] at hg2
    injection hg2 with hg2
    injection hg2 with h7
    have h8 := congrArg Array.size h7
    simp at h8
    omega
/-- 'append' of a point as one step of a region that draws its order. -/
theorem step_append_pg {P : Program} {ops : Array Oper} {o : Oper} {a : Act} {wr : World} {K : Act → World → Prop} {Q : Exit → Act → World → Prop} {E : Prop} (hg : o.guard = none) (s x : Operand) (t : TypeId)
    (hop : o.op = .call { callee := .builtin .append, args := #[s, x], argTypes := #[t, t] })
    (base : Nat) (i : TypeInfo) (z : Value) (bytes : Nat) (ht : P.underlying t = some (.slice 38)) (hi : P.info? 38 = some i) (hz : i.zero = some z) (hsize : i.size = 2) (hby : i.bytes = bytes) (hzs : z.cells.size = 2)
    (v : Value) (l : List Pt) (hs : a.eval s = v) (hown : wr.ownsRow base 38 2 v l.length (ptsV l)) (p q : Int) (c : Nat) (hx : a.eval x = .slice (some ⟨wr.heap.size, 0, none⟩) 1 c)
    (h63 : l.length + 1 ≤ maxLen) (hlen : (l.length + 1) * bytes ≤ 140737488355328) (hbase : base ≤ wr.heap.size)
    (hK : ∀ v' w', w'.ownsRow base 38 2 v' (l ++ [(p, q)]).length (ptsV (l ++ [(p, q)])) → (wr.alloc (.cells #[.int .i64 p, .int .i64 q] 38)).grownBy w' v.ownBlock → K (a.put o.dst v') w') :
    if Region.wanted o (yielded ops a.tmps) = true then Oper.wp P o a (wr.alloc (.cells #[.int .i64 p, .int .i64 q] 38)) K Q else E := by
  have hw : Region.wanted o (yielded ops a.tmps) = true := by simp [Region.wanted, hg]
  rw [if_pos hw]
  refine wp_append_own (wr.alloc (.cells #[.int .i64 p, .int .i64 q] 38)) s x t hop base 38 i z 2 bytes ht hi hz hsize hby hzs (by decide) v l.length (ptsV l) hs (hown.alloc _) ⟨wr.heap.size, 0, none⟩ 1 c (ptV (p, q)) hx (by simp [ptV]) (pt_cells wr p q _) (pt_one p q) h63 hlen (by simp; omega) ?_
  intro v' w' ho' hg' _
  refine hK v' w' ?_ hg'
  have e1 : (l ++ [(p, q)]).length = l.length + 1 := by simp
  have e2 : ptsV (l ++ [(p, q)]) = ptsV l ++ ptV (p, q) := by rw [ptsV_app]; simp [ptsV]
  rw [e1, e2]; exact ho'
end Go.Proofs.YtfnbemmlafmjlaaGreat
