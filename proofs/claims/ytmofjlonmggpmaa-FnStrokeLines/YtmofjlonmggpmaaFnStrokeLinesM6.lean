/-
  TwTwS · TwStrokeT · TwLinesL · TwLinesA · TwLinesB · TwLinesW · TwTwX · TwDraw · TwDrawP · TwQuot · TwDrawM · TwDrawPt · TwPtCur · TwDrawPts · TwStrokesP · TwSamesL · TwTwL · TwTwZ · TwTwG: texts of one claim, in one.
-/
import Derived.Test.YtmofjlonmggpmaaFnStrokeLinesM5
import Derived.Deep.RegionHeld3
import Derived.Deep.DeepCutAuto
import Derived.Deep.DeepFit
import Derived.Deep.QuietTactic
import Derived.BigQuiet
import Derived.Laws.BitsAllLaws
import Derived.OpenShut
import Derived.DataReads
import Derived.ChangeAlike

/-
  The twin's StrokeOf and its second form. (By strokew.py.)
-/
namespace Go.Proofs.YtmofjlonmggpmaaTw
open Go.RowKit Go.Goes
set_option linter.unusedVariables false

theorem mk_chan (w : World) : (Instr.makeChan 48 (.int .i64 0)).run Tryt.prog w = .ok (.chan (some w.heap.size)) (w.alloc (.chan 0 #[] false 0 0 false)) := by kernel_rfl
/-- The edges that are left, with what is told last. -/
def leftV (a : Value) (es : List Edge) : Value := .tuple #[a, .bool true, Lapp (es.map edV) (.tuple #[edgeV (0, 0) (0, 0) false, .bool false])]
/-- What is told next. -/
def nextV : List Edge → Value
  | [] => .tuple #[edgeV (0, 0) (0, 0) false, .bool false]
  | e :: es => leftV (edV e) es
theorem nextV_lapp : ∀ es : List Edge, Lapp (es.map edV) (.tuple #[edgeV (0, 0) (0, 0) false, .bool false]) = nextV es
  | [] => rfl
  | _ :: _ => rfl
theorem nextV_cons (e : Edge) (es : List Edge) : nextV (e :: es) = .tuple #[.agg #[.int .i64 e.1.1, .int .i64 e.1.2, .int .i64 e.2.1.1, .int .i64 e.2.1.2, .bool e.2.2], .bool true, nextV es] := by
  show leftV _ _ = _
  unfold leftV
  rw [nextV_lapp]
  rfl
theorem size_next (a X : Value) : SizeOf.sizeOf X < SizeOf.sizeOf (Value.tuple #[a, .bool true, X]) := by
  simp only [Value.tuple.sizeOf_spec, Array.mk.sizeOf_spec, List.cons.sizeOf_spec]
  omega
theorem row5e {w1 : World} {b : Nat} {x0 x1 x2 x3 x4 : Value} {t : TypeId} (h : w1.heap[b]? = some (.cells #[x0, x1, x2, x3, x4] t (0, 0))) : w1.cell? ⟨b, 0, none⟩ = some x0 ∧ w1.cell? ⟨b, 1, none⟩ = some x1 ∧ w1.cell? ⟨b, 2, none⟩ = some x2 ∧ w1.cell? ⟨b, 3, none⟩ = some x3 ∧ w1.cell? ⟨b, 4, none⟩ = some x4 := by
  refine ⟨?_, ?_, ?_, ?_, ?_⟩ <;> exact cell_of_row _ _ _ _ _ _ h
theorem edge_grown {u u' : World} {base n : Nat} {v q : Value} {xs : List Value} (ho : u.ownsRow base 32 1 v n xs) (hg : (u.alloc (.cells #[q] 32)).grownBy u' v.ownBlock) {b : Nat} {cs : Array Value} {f : Nat × Nat} (h : u.heap[b]? = some (.cells cs 51 f)) : u'.heap[b]? = some (.cells cs 51 f) :=
  grown_row (own_below ho (al1_below u _)) hg (row_next (al1_below u _) h) (by decide)
theorem ltof {w : World} {la : Option Addr} {i n : Nat} {pf : Nat → Pt} (h : LTy w la i n pf) : LArg w la i n pf := let ⟨s, o, x, c, h1, h2, h3, _⟩ := h; ⟨s, o, x, c, h1, h2, h3⟩
theorem edN_len (ln : Nat → Nat) (pf : Nat → Nat → Pt) : ∀ k, (edN ln pf k).length ≤ sumLn ln k
  | 0 => Nat.zero_le _
  | k + 1 => by
    have h1 := edN_len ln pf k
    have h2 : ∀ (n : Nat) (f : Nat → Pt) m, (edL n f m).length ≤ m := fun n f m => by
      induction m with
      | zero => simp [edL]
      | succ m ih =>
        cases m with
        | zero => simp [edL]
        | succ m => simp only [edL, List.length_append, List.length_singleton]; omega
    have h3 := h2 (ln k) (pf k) (ln k)
    simp only [edN, List.length_append, sumLn]
    omega
theorem stepE_len (W : Int) (e : Edge) : (stepE W e).length ≤ 2 := by
  unfold stepE
  rw [List.length_append]
  split <;> split <;> simp
theorem flatE_len (W : Int) : ∀ es : List Edge, (es.flatMap (stepE W)).length ≤ 2 * es.length
  | [] => by simp
  | e :: es => by
    have h1 := stepE_len W e
    have h2 := flatE_len W es
    simp only [List.flatMap_cons, List.length_append, List.length_cons]
    omega
/-- Each end of an edge is one of the points. -/
theorem edN_ok {ln : Nat → Nat} {pf : Nat → Nat → Pt} : ∀ {N : Nat}, AllPt N ln pf → ∀ e ∈ edN ln pf N, pointOkB e.1.1 e.1.2 = true ∧ pointOkB e.2.1.1 e.2.1.2 = true
  | 0, _, e, h => by cases h
  | k + 1, hA, e, h => by
    have h2 : ∀ (n : Nat) (f : Nat → Pt), (∀ j, j < n → pointOkB (f j).1 (f j).2 = true) → ∀ m, m ≤ n → ∀ e ∈ edL n f m, pointOkB e.1.1 e.1.2 = true ∧ pointOkB e.2.1.1 e.2.1.2 = true := fun n f hf m => by
      induction m with
      | zero => intro _ e h; cases h
      | succ m ih =>
        intro hm
        cases m with
        | zero => intro e h; cases h
        | succ m =>
          intro e h
          simp only [edL, List.mem_append, List.mem_singleton] at h
          rcases h with h | rfl
          · exact ih (by omega) e h
          · exact ⟨hf _ (by omega), hf _ (by omega)⟩
    simp only [edN, List.mem_append] at h
    rcases h with h | h
    · exact edN_ok (fun i hi j hj => hA i (by omega) j hj) e h
    · exact h2 _ _ (fun j hj => hA k (by omega) j hj) _ (Nat.le_refl _) e h

set_option maxHeartbeats 16000000 in
set_option maxRecDepth 100000 in
/-- **The second form**: its tree is known. -/
theorem twTwo_any (N : Nat) (ln : Nat → Nat) (pf : Nat → Nat → Pt) (hN : N ≤ 4300000000000) (hl : ∀ i, i < N → ln i ≤ 1048576) (hT : sumLn ln N ≤ 2900000000000) (la : Option Addr) (lc : Nat) (W : Int) (w : World) (HL : ∀ i, i < N → LArg w la i (ln i) (pf i)) :
    Calls Tryt.prog 70 #[.slice la N lc, .int .i64 W] w fun r w' => ∃ v sq, r = .returned (.tuple #[v, sq]) ∧ (sq = undef ∨ ∃ a, sq = .tuple #[a, .bool false]) := by
  obtain ⟨i2, hi2, hz2, hs2, hb2⟩ := info_parts infoPts
  have hA : ∃ y : Bool, y = true ↔ AllPt N ln pf := by
    by_cases h : AllPt N ln pf
    · exact ⟨true, fun _ => h, fun _ => rfl⟩
    · exact ⟨false, fun h0 => (by cases h0), fun h1 => absurd h1 h⟩
  obtain ⟨y, hy⟩ := hA
  have EW := hide (implWidthOk_any W)
  have EA := hide (fun u (hu : Below w.heap.size w u) => implLinesOk_any N ln pf hN hl la lc y hy u (fun i hi => (HL i hi).next hu))
  have EY := hide (fun u (hu : Below w.heap.size w u) => show Calls Tryt.prog 74 #[.slice la N lc] u (fun r w' => ∃ X, r = .returned (.tuple #[.int .i64 0, .bool true, X]) ∧ Hid (X = nextV (edN ln pf N)) ∧ w' = u) by
    refine (twAll_any N lc ln pf la hN hl u (fun i hi => (HL i hi).next hu)).mono ?_
    rintro r w1 ⟨rfl, rfl⟩
    exact ⟨_, rfl, by rw [edgesN_map, lv_lapp]; exact nextV_lapp _, rfl⟩)
  have hno := hide (fun (h : inB W 1 2048 = false) => show strokeA W N ln pf = [] from if_neg (fun e => by rw [h] at e; cases e.1))
  have hbad := hide (fun (h : y = false) => show strokeA W N ln pf = [] from if_neg (fun e => by rw [hy.2 e.2] at h; cases h))
  have hyes := hide (fun (h : inB W 1 2048 = true) (ha : y = true) => show strokeA W N ln pf = (edN ln pf N).flatMap (stepE W) from (if_pos ⟨h, hy.1 ha⟩).trans (strokeN_edges W ln pf N))
  have hok := hide (fun (ha : y = true) => edN_ok (hy.1 ha))
  have hlen := hide (Nat.le_trans (edN_len ln pf N) hT)
  generalize strokeA W N ln pf = R at hno hbad hyes ⊢
  generalize edN ln pf N = es at EY hyes hok hlen
  go_enter Tryt.func70, Tryt.ntmps70
  clear HL hT hl hy
  go_upto_region 2 with fail
  have G := hide (GL.begin w w (Below.refl _ _))
  generalize w.alloc (.cells #[] 32) = V at G ⊢
  generalize (some (⟨w.heap.size, 0, none⟩ : Addr)) = a5 at G ⊢
  go_wp2_with fail
  go_fit (unhide EW _)
  rintro r w1 ⟨rfl, rfl⟩
  cases hw : inB W 1 2048 with
  | false =>
    have hR := hide (unhide hno hw)
    clear EA EY hyes hok hlen
    go_wp2_with fail
    go_ret2
    exact ⟨_, _, rfl, .inl rfl⟩
  | true =>
  have hW := inB_true.1 hw
  replace hyes := hide (unhide hyes hw)
  clear hno hw EW
  go_wp2_with fail
  go_fit (unhide EA _ (unhide G).2.2)
  rintro r w2 ⟨rfl, hb2'⟩
  replace G := hide ((unhide G).next hb2')
  clear hb2' EA
  cases hyv : y with
  | false =>
    have hR := hide (unhide hbad hyv)
    subst hyv
    clear EY hyes hok hlen
    go_wp2_with fail
    go_ret2
    exact ⟨_, _, rfl, .inl rfl⟩
  | true =>
  replace hyes := hide (unhide hyes hyv)
  replace hok := hide (unhide hok hyv)
  subst hyv
  clear hbad
  have hmk := mk_chan
  go_upto_region 5 with fail
  replace G := hide ((unhide G).next (al1_below _ (.chan 0 #[] false 0 0 false)))
  generalize w2.alloc (.chan 0 #[] false 0 0 false) = V3 at G ⊢
  generalize w2.heap.size = c3
  clear hmk
  go_wp2_with fail
  go_fit (unhide EY _ (unhide G).2.2)
  rintro r w4 ⟨X, rfl, hX, hw4⟩
  subst hw4
  clear EY
  go_wp2_with fail
  go_loopw [5, 23] (fun v q u => ∃ (done rest : List Edge) (a X : Value) (vs : List Value) (L : List (List Pt)), Hid (done ++ rest = es) ∧ q = .tuple #[a, .bool true, X] ∧ Hid (X = nextV rest) ∧ Hid (L = done.flatMap (stepE W)) ∧ Hid (GL w u v L vs)) (fun _ q _ => SizeOf.sizeOf q)
  case atStart => exact ⟨[], es, _, _, [], [], rfl, rfl, hX, rfl, G⟩
  case round =>
    clear G hX
    obtain ⟨done, rest, a, X, vs, L, hes, rfl, hX, hL, G⟩ := hrel
    obtain ⟨av, cv, e1⟩ := (unhide G).form
    subst e1
    cases rest with
    | nil =>
      have hX2 := unhide hX
      unfold nextV edgeV at hX2
      subst hX2
      have hR := hide (show L = R by rw [unhide hyes, ← unhide hes, List.append_nil]; exact unhide hL)
      clear hX hok hlen hyes
      go_wp2_with fail
      go_ret2
      exact ⟨_, _, rfl, .inr ⟨_, rfl⟩⟩
    | cons e rest =>
      have hX2 := unhide hX
      rw [nextV_cons] at hX2
      subst hX2
      clear hX
      have hsz := size_next a (.tuple #[.agg #[.int .i64 e.1.1, .int .i64 e.1.2, .int .i64 e.2.1.1, .int .i64 e.2.1.2, .bool e.2.2], .bool true, nextV rest])
      obtain ⟨X, hX⟩ : ∃ X, Hid (X = nextV rest) := ⟨_, rfl⟩
      rw [← unhide hX] at hsz ⊢
      have hmem : e ∈ es := by rw [← unhide hes]; simp
      obtain ⟨hpo, hpq⟩ := unhide hok e hmem
      have hes2 := hide (show (done ++ [e]) ++ rest = es by rw [← unhide hes]; simp)
      have hlen2 := hide (show L.length + 2 ≤ 5800000000002 by
        have h1 := flatE_len W done
        have h2 := congrArg List.length (unhide hes2)
        have h3 := unhide hlen
        simp only [List.length_append, List.length_singleton] at h2
        rw [unhide hL]
        omega)
      have hstep := hide (show (done ++ [e]).flatMap (stepE W) = L ++ stepE W e by rw [List.flatMap_append, ← unhide hL]; simp)
      obtain ⟨⟨px, py⟩, ⟨qx, qy⟩, b⟩ := e
      dsimp only at hpo hpq hsz ⊢
      obtain ⟨QL, hQL⟩ : ∃ z, Hid (quadW W (px, py) (qx, qy) = z) := ⟨_, rfl⟩
      have EQ := hide (fun u => show Calls Tryt.prog 26 #[.agg #[.int .i64 px, .int .i64 py], .agg #[.int .i64 qx, .int .i64 qy], .int .i64 W] u (fun r w' => ∃ v, r = .returned v ∧ w'.ownsRow u.heap.size 38 2 v QL.length (ptsV QL) ∧ Below u.heap.size u w') by
        have h := implQuadOf_any px py qx qy W (lenC (px, py) (qx, qy)) (lenC_is (px, py) (qx, qy)) u
        rw [show quadC px py qx qy W (lenC (px, py) (qx, qy)) = quadW W (px, py) (qx, qy) from rfl, unhide hQL] at h
        exact h)
      have hst1 := hide (fun (h : 0 < QL.length) => show stepE W ((px, py), (qx, qy), b) = [QL] ++ (if b = true then [jointW W (qx, qy)] else []) by
        unfold stepE
        dsimp only
        rw [unhide hQL, if_pos h])
      have hst0 := hide (fun (h : ¬ 0 < QL.length) => show stepE W ((px, py), (qx, qy), b) = (if b = true then [jointW W (qx, qy)] else []) by
        unfold stepE
        dsimp only
        rw [unhide hQL, if_neg h, List.nil_append])
      generalize stepE W ((px, py), (qx, qy), b) = SE at hstep hst1 hst0
      clear hQL hmem hok hes hyes hlen
      go_upto_region 9 with fail
      have RW := hide (new_row wr (.cells #[.int .i64 px, .int .i64 py, .int .i64 qx, .int .i64 qy, .bool b] 51))
      replace G := hide ((unhide G).next (al1_below wr (.cells #[.int .i64 px, .int .i64 py, .int .i64 qx, .int .i64 qy, .bool b] 51)))
      generalize wr.alloc (.cells #[.int .i64 px, .int .i64 py, .int .i64 qx, .int .i64 qy, .bool b] 51) = V5 at RW G ⊢
      generalize wr.heap.size = b5 at RW ⊢
      obtain ⟨k0, k1, k2, k3, k4⟩ := row5e (unhide RW)
      go_wp2_with fail
      go_fit (unhide EQ _)
      rintro r w6 ⟨qv, rfl, hqo, hb6⟩
      obtain ⟨aq, cq, eq⟩ := own_form hqo
      subst eq
      replace RW := hide (row_next hb6 (unhide RW))
      have G2 := hide ((unhide G).next hb6)
      have hb6h := hide hb6
      replace hqo := hide hqo
      clear hb6 k0 k1 k2 k3 k4 EQ
      go_upto_if 34 with fail
      go_cut [5] from 24 to 48 (fun v u => ∃ (vs : List Value) (L' : List (List Pt)), Hid (L' ++ (if b = true then [jointW W (qx, qy)] else []) = L ++ SE) ∧ L'.length ≤ L.length + 1 ∧ Hid (u.heap[b5]? = some (.cells #[.int .i64 px, .int .i64 py, .int .i64 qx, .int .i64 qy, .bool b] 51 (0, 0))) ∧ Hid (GL w u v L' vs))
      case first =>
        by_cases hql : 0 < QL.length
        · have hql' : (0 : Int) < (QL.length : Int) := by omega
          have hsq := hide (unhide hst1 hql)
          clear hst1 hst0
          go_wp2_with (at_builtin; go_must (refine wpList_append_ll w6 rfl _ _ 24 rfl w.heap.size i2 (.slice none 0 0) 24 Tryt.underlying24 hi2 hz2 hs2 hb2 rfl _ L.length vs (by rfl) (unhide G2).1 (.slice aq QL.length cq) rfl 1 (by rfl) (by have := unhide hlen2; unfold maxLen; omega) (by have := unhide hlen2; omega) (unhide G2).2.2.size ?_); intro v9 w9 ho9 hg9 _; have G9 := hide ((unhide G).push (unhide hb6h) (Nat.le_refl _) (unhide hqo) ho9 hg9); have RW9 := hide (edge_grown (unhide G2).1 hg9 (unhide RW)); obtain ⟨a9, n9, c9, rfl⟩ := own_form3 ho9; clear ho9 hg9)
          go_meet
          exact ⟨_, _, hide (by rw [unhide hsq]; simp [List.append_assoc]), by simp, RW9, G9⟩
        · have hql' : ¬ (0 : Int) < (QL.length : Int) := by omega
          have hsq := hide (unhide hst0 hql)
          clear hst1 hst0
          go_wp2_with fail
          go_meet
          exact ⟨_, _, hide (by rw [unhide hsq]), by omega, RW, G2⟩
      case rest =>
      clear G2 RW hqo hst1 hst0 G hb6h
      obtain ⟨vs2, L2, hL2, hle, RW, G⟩ := hcut
      obtain ⟨a5', c5', e1⟩ := (unhide G).form
      subst e1
      have hlen3 := hide (show L2.length + 1 ≤ 5800000000002 by have h1 := unhide hlen2; omega)
      obtain ⟨k0, k1, k2, k3, k4⟩ := row5e (unhide RW)
      cases b with
      | false =>
        have hLn := hide (show L2 = L ++ SE by have h := unhide hL2; rw [if_neg (by decide), List.append_nil] at h; exact h)
        clear hL2
        go_wp2_with fail
        go_roundw
        case rel => exact ⟨_, rest, _, X, vs2, L2, hes2, rfl, hX, hide (by rw [unhide hLn, unhide hstep]), G⟩
        case measure => exact hsz
      | true =>
        have hLn := hide (show L2 ++ [jointW W (qx, qy)] = L ++ SE by have h := unhide hL2; rw [if_pos rfl] at h; exact h)
        clear hL2
        have ES := hide (implSquareAround_any qx qy W hpq hW)
        have hJ := hide (show jointW W (qx, qy) = [(qx - W / 2, qy - W / 2), (qx - W / 2 + W, qy - W / 2), (qx - W / 2 + W, qy - W / 2 + W), (qx - W / 2, qy - W / 2 + W)] from rfl)
        generalize jointW W (qx, qy) = JL at hLn hJ
        generalize qx - W / 2 = jx at ES hJ
        generalize qy - W / 2 = jy at ES hJ
        generalize jx + W = jx1 at ES hJ
        generalize jy + W = jy1 at ES hJ
        have EC := hide (implCornersOf_any jx jy jx1 jy1)
        go_wp2_with fail
        go_fit (unhide ES _)
        rintro r w7 ⟨rfl, hb7⟩
        replace G := hide ((unhide G).next hb7)
        clear hb7 k0 k1 k2 k3 k4 RW ES
        go_wp2_with fail
        go_fit (unhide EC _)
        rintro r w8 ⟨rfl, hr8, hb8⟩
        have hJ4 : JL.length = 4 := by rw [unhide hJ]; rfl
        have hqo8 := hide (show w8.ownsRow w7.heap.size 38 2 (.slice (some ⟨w7.heap.size + 1, 0, none⟩) 4 4) JL.length (ptsV JL) by
          rw [unhide hJ]
          exact ⟨rfl, .inr ⟨w7.heap.size + 1, 4, _, rfl, Nat.le_succ _, hr8, Nat.le_refl _, by decide, rfl, rfl⟩⟩)
        have hb8h := hide hb8
        have G8 := hide ((unhide G).next hb8)
        generalize (some (⟨w7.heap.size + 1, 0, none⟩ : Addr)) = a8 at hqo8 ⊢
        clear hb8 hr8 EC hJ
        go_wp2_with (at_builtin; go_must (refine wpList_append_ll w8 rfl _ _ 24 rfl w.heap.size i2 (.slice none 0 0) 24 Tryt.underlying24 hi2 hz2 hs2 hb2 rfl _ L2.length vs2 (by rfl) (unhide G8).1 (.slice a8 4 4) rfl 1 (by rfl) (by have := unhide hlen3; unfold maxLen; omega) (by have := unhide hlen3; omega) (unhide G8).2.2.size ?_); intro v9 w9 ho9 hg9 _; have G9 := hide ((unhide G).push (unhide hb8h) (Nat.le_refl _) (unhide hqo8) ho9 hg9); obtain ⟨a9, n9, c9, rfl⟩ := own_form3 ho9; clear ho9 hg9)
        go_roundw
        case rel => exact ⟨_, rest, _, X, _, _, hes2, rfl, hX, hide (by rw [unhide hLn, unhide hstep]), G9⟩
        case measure => exact hsz

set_option maxHeartbeats 16000000 in
set_option maxRecDepth 100000 in
/-- **The twin's StrokeOf.** -/
theorem twStroke_any (N : Nat) (ln : Nat → Nat) (pf : Nat → Nat → Pt) (hN : N ≤ 4300000000000) (hl : ∀ i, i < N → ln i ≤ 1048576) (hT : sumLn ln N ≤ 2900000000000) (la : Option Addr) (lc : Nat) (W : Int) (w : World) (HL0 : ∀ i, i < N → LTy w la i (ln i) (pf i)) (T0 : OfTy w la 32) :
    Calls Tryt.prog 8 #[.slice la N lc, .int .i64 W] w fun r w' => ∃ v, r = .returned v ∧ LinesV w' w.heap.size v (strokeA W N ln pf) ∧ Below w.heap.size w w' := by
  obtain ⟨i2, hi2, hz2, hs2, hb2⟩ := info_parts infoPts
  have HL := fun i hi => ltof (HL0 i hi)
  have hA : ∃ y : Bool, y = true ↔ AllPt N ln pf := by
    by_cases h : AllPt N ln pf
    · exact ⟨true, fun _ => h, fun _ => rfl⟩
    · exact ⟨false, fun h0 => (by cases h0), fun h1 => absurd h1 h⟩
  obtain ⟨y, hy⟩ := hA
  have EW := hide (implWidthOk_any W)
  have EA := hide (fun u (hu : Below w.heap.size w u) => implLinesOk_any N ln pf hN hl la lc y hy u (fun i hi => (HL i hi).next hu))
  have EY := hide (fun u (hu : Below w.heap.size w u) => show Calls Tryt.prog 74 #[.slice la N lc] u (fun r w' => ∃ X, r = .returned (.tuple #[.int .i64 0, .bool true, X]) ∧ Hid (X = nextV (edN ln pf N)) ∧ w' = u) by
    refine (twAll_any N lc ln pf la hN hl u (fun i hi => (HL i hi).next hu)).mono ?_
    rintro r w1 ⟨rfl, rfl⟩
    exact ⟨_, rfl, by rw [edgesN_map, lv_lapp]; exact nextV_lapp _, rfl⟩)
  have hno := hide (fun (h : inB W 1 2048 = false) => show strokeA W N ln pf = [] from if_neg (fun e => by rw [h] at e; cases e.1))
  have hbad := hide (fun (h : y = false) => show strokeA W N ln pf = [] from if_neg (fun e => by rw [hy.2 e.2] at h; cases h))
  have hyes := hide (fun (h : inB W 1 2048 = true) (ha : y = true) => show strokeA W N ln pf = (edN ln pf N).flatMap (stepE W) from (if_pos ⟨h, hy.1 ha⟩).trans (strokeN_edges W ln pf N))
  have hok := hide (fun (ha : y = true) => edN_ok (hy.1 ha))
  have hlen := hide (Nat.le_trans (edN_len ln pf N) hT)
  generalize strokeA W N ln pf = R at hno hbad hyes ⊢
  generalize edN ln pf N = es at EY hyes hok hlen
  have EC0 := hide (twCheck_any N lc ln pf la W hN hl hT w HL0 T0)
  go_enter Tryt.func8, Tryt.ntmps8
  go_wp2_with fail
  go_fit (unhide EC0)
  rintro r w0 ⟨rfl, hw0⟩
  replace hw0 := hw0.symm
  subst hw0
  clear EC0 HL0 T0
  clear HL hT hl hy
  go_upto_region 2 with fail
  have G := hide (GL.begin w w (Below.refl _ _))
  generalize w.alloc (.cells #[] 32) = V at G ⊢
  generalize (some (⟨w.heap.size, 0, none⟩ : Addr)) = a5 at G ⊢
  go_wp2_with fail
  go_fit (unhide EW _)
  rintro r w1 ⟨rfl, rfl⟩
  cases hw : inB W 1 2048 with
  | false =>
    have hR := hide (unhide hno hw)
    clear EA EY hyes hok hlen
    go_wp2_with fail
    go_ret
    exact ⟨_, rfl, by rw [unhide hR]; exact (unhide G).lines, (unhide G).2.2⟩
  | true =>
  have hW := inB_true.1 hw
  replace hyes := hide (unhide hyes hw)
  clear hno hw EW
  go_wp2_with fail
  go_fit (unhide EA _ (unhide G).2.2)
  rintro r w2 ⟨rfl, hb2'⟩
  replace G := hide ((unhide G).next hb2')
  clear hb2' EA
  cases hyv : y with
  | false =>
    have hR := hide (unhide hbad hyv)
    subst hyv
    clear EY hyes hok hlen
    go_wp2_with fail
    go_ret
    exact ⟨_, rfl, by rw [unhide hR]; exact (unhide G).lines, (unhide G).2.2⟩
  | true =>
  replace hyes := hide (unhide hyes hyv)
  replace hok := hide (unhide hok hyv)
  subst hyv
  clear hbad
  have hmk := mk_chan
  go_upto_region 5 with fail
  replace G := hide ((unhide G).next (al1_below _ (.chan 0 #[] false 0 0 false)))
  generalize w2.alloc (.chan 0 #[] false 0 0 false) = V3 at G ⊢
  generalize w2.heap.size = c3
  clear hmk
  go_wp2_with fail
  go_fit (unhide EY _ (unhide G).2.2)
  rintro r w4 ⟨X, rfl, hX, hw4⟩
  subst hw4
  clear EY
  go_wp2_with fail
  go_loopw [5, 23] (fun v q u => ∃ (done rest : List Edge) (a X : Value) (vs : List Value) (L : List (List Pt)), Hid (done ++ rest = es) ∧ q = .tuple #[a, .bool true, X] ∧ Hid (X = nextV rest) ∧ Hid (L = done.flatMap (stepE W)) ∧ Hid (GL w u v L vs)) (fun _ q _ => SizeOf.sizeOf q)
  case atStart => exact ⟨[], es, _, _, [], [], rfl, rfl, hX, rfl, G⟩
  case round =>
    clear G hX
    obtain ⟨done, rest, a, X, vs, L, hes, rfl, hX, hL, G⟩ := hrel
    obtain ⟨av, cv, e1⟩ := (unhide G).form
    subst e1
    cases rest with
    | nil =>
      have hX2 := unhide hX
      unfold nextV edgeV at hX2
      subst hX2
      have hR := hide (show L = R by rw [unhide hyes, ← unhide hes, List.append_nil]; exact unhide hL)
      clear hX hok hlen hyes
      go_wp2_with fail
      go_ret
      exact ⟨_, rfl, by rw [← unhide hR]; exact (unhide G).lines, (unhide G).2.2⟩
    | cons e rest =>
      have hX2 := unhide hX
      rw [nextV_cons] at hX2
      subst hX2
      clear hX
      have hsz := size_next a (.tuple #[.agg #[.int .i64 e.1.1, .int .i64 e.1.2, .int .i64 e.2.1.1, .int .i64 e.2.1.2, .bool e.2.2], .bool true, nextV rest])
      obtain ⟨X, hX⟩ : ∃ X, Hid (X = nextV rest) := ⟨_, rfl⟩
      rw [← unhide hX] at hsz ⊢
      have hmem : e ∈ es := by rw [← unhide hes]; simp
      obtain ⟨hpo, hpq⟩ := unhide hok e hmem
      have hes2 := hide (show (done ++ [e]) ++ rest = es by rw [← unhide hes]; simp)
      have hlen2 := hide (show L.length + 2 ≤ 5800000000002 by
        have h1 := flatE_len W done
        have h2 := congrArg List.length (unhide hes2)
        have h3 := unhide hlen
        simp only [List.length_append, List.length_singleton] at h2
        rw [unhide hL]
        omega)
      have hstep := hide (show (done ++ [e]).flatMap (stepE W) = L ++ stepE W e by rw [List.flatMap_append, ← unhide hL]; simp)
      obtain ⟨⟨px, py⟩, ⟨qx, qy⟩, b⟩ := e
      dsimp only at hpo hpq hsz ⊢
      obtain ⟨QL, hQL⟩ : ∃ z, Hid (quadW W (px, py) (qx, qy) = z) := ⟨_, rfl⟩
      have EQ := hide (fun u => show Calls Tryt.prog 26 #[.agg #[.int .i64 px, .int .i64 py], .agg #[.int .i64 qx, .int .i64 qy], .int .i64 W] u (fun r w' => ∃ v, r = .returned v ∧ w'.ownsRow u.heap.size 38 2 v QL.length (ptsV QL) ∧ Below u.heap.size u w') by
        have h := implQuadOf_any px py qx qy W (lenC (px, py) (qx, qy)) (lenC_is (px, py) (qx, qy)) u
        rw [show quadC px py qx qy W (lenC (px, py) (qx, qy)) = quadW W (px, py) (qx, qy) from rfl, unhide hQL] at h
        exact h)
      have hst1 := hide (fun (h : 0 < QL.length) => show stepE W ((px, py), (qx, qy), b) = [QL] ++ (if b = true then [jointW W (qx, qy)] else []) by
        unfold stepE
        dsimp only
        rw [unhide hQL, if_pos h])
      have hst0 := hide (fun (h : ¬ 0 < QL.length) => show stepE W ((px, py), (qx, qy), b) = (if b = true then [jointW W (qx, qy)] else []) by
        unfold stepE
        dsimp only
        rw [unhide hQL, if_neg h, List.nil_append])
      generalize stepE W ((px, py), (qx, qy), b) = SE at hstep hst1 hst0
      clear hQL hmem hok hes hyes hlen
      go_upto_region 9 with fail
      have RW := hide (new_row wr (.cells #[.int .i64 px, .int .i64 py, .int .i64 qx, .int .i64 qy, .bool b] 51))
      replace G := hide ((unhide G).next (al1_below wr (.cells #[.int .i64 px, .int .i64 py, .int .i64 qx, .int .i64 qy, .bool b] 51)))
      generalize wr.alloc (.cells #[.int .i64 px, .int .i64 py, .int .i64 qx, .int .i64 qy, .bool b] 51) = V5 at RW G ⊢
      generalize wr.heap.size = b5 at RW ⊢
      obtain ⟨k0, k1, k2, k3, k4⟩ := row5e (unhide RW)
      go_wp2_with fail
      go_fit (unhide EQ _)
      rintro r w6 ⟨qv, rfl, hqo, hb6⟩
      obtain ⟨aq, cq, eq⟩ := own_form hqo
      subst eq
      replace RW := hide (row_next hb6 (unhide RW))
      have G2 := hide ((unhide G).next hb6)
      have hb6h := hide hb6
      replace hqo := hide hqo
      clear hb6 k0 k1 k2 k3 k4 EQ
      go_upto_if 34 with fail
      go_cut [5] from 24 to 48 (fun v u => ∃ (vs : List Value) (L' : List (List Pt)), Hid (L' ++ (if b = true then [jointW W (qx, qy)] else []) = L ++ SE) ∧ L'.length ≤ L.length + 1 ∧ Hid (u.heap[b5]? = some (.cells #[.int .i64 px, .int .i64 py, .int .i64 qx, .int .i64 qy, .bool b] 51 (0, 0))) ∧ Hid (GL w u v L' vs))
      case first =>
        by_cases hql : 0 < QL.length
        · have hql' : (0 : Int) < (QL.length : Int) := by omega
          have hsq := hide (unhide hst1 hql)
          clear hst1 hst0
          go_wp2_with (at_builtin; go_must (refine wpList_append_ll w6 rfl _ _ 24 rfl w.heap.size i2 (.slice none 0 0) 24 Tryt.underlying24 hi2 hz2 hs2 hb2 rfl _ L.length vs (by rfl) (unhide G2).1 (.slice aq QL.length cq) rfl 1 (by rfl) (by have := unhide hlen2; unfold maxLen; omega) (by have := unhide hlen2; omega) (unhide G2).2.2.size ?_); intro v9 w9 ho9 hg9 _; have G9 := hide ((unhide G).push (unhide hb6h) (Nat.le_refl _) (unhide hqo) ho9 hg9); have RW9 := hide (edge_grown (unhide G2).1 hg9 (unhide RW)); obtain ⟨a9, n9, c9, rfl⟩ := own_form3 ho9; clear ho9 hg9)
          go_meet
          exact ⟨_, _, hide (by rw [unhide hsq]; simp [List.append_assoc]), by simp, RW9, G9⟩
        · have hql' : ¬ (0 : Int) < (QL.length : Int) := by omega
          have hsq := hide (unhide hst0 hql)
          clear hst1 hst0
          go_wp2_with fail
          go_meet
          exact ⟨_, _, hide (by rw [unhide hsq]), by omega, RW, G2⟩
      case rest =>
      clear G2 RW hqo hst1 hst0 G hb6h
      obtain ⟨vs2, L2, hL2, hle, RW, G⟩ := hcut
      obtain ⟨a5', c5', e1⟩ := (unhide G).form
      subst e1
      have hlen3 := hide (show L2.length + 1 ≤ 5800000000002 by have h1 := unhide hlen2; omega)
      obtain ⟨k0, k1, k2, k3, k4⟩ := row5e (unhide RW)
      cases b with
      | false =>
        have hLn := hide (show L2 = L ++ SE by have h := unhide hL2; rw [if_neg (by decide), List.append_nil] at h; exact h)
        clear hL2
        go_wp2_with fail
        go_roundw
        case rel => exact ⟨_, rest, _, X, vs2, L2, hes2, rfl, hX, hide (by rw [unhide hLn, unhide hstep]), G⟩
        case measure => exact hsz
      | true =>
        have hLn := hide (show L2 ++ [jointW W (qx, qy)] = L ++ SE by have h := unhide hL2; rw [if_pos rfl] at h; exact h)
        clear hL2
        have ES := hide (implSquareAround_any qx qy W hpq hW)
        have hJ := hide (show jointW W (qx, qy) = [(qx - W / 2, qy - W / 2), (qx - W / 2 + W, qy - W / 2), (qx - W / 2 + W, qy - W / 2 + W), (qx - W / 2, qy - W / 2 + W)] from rfl)
        generalize jointW W (qx, qy) = JL at hLn hJ
        generalize qx - W / 2 = jx at ES hJ
        generalize qy - W / 2 = jy at ES hJ
        generalize jx + W = jx1 at ES hJ
        generalize jy + W = jy1 at ES hJ
        have EC := hide (implCornersOf_any jx jy jx1 jy1)
        go_wp2_with fail
        go_fit (unhide ES _)
        rintro r w7 ⟨rfl, hb7⟩
        replace G := hide ((unhide G).next hb7)
        clear hb7 k0 k1 k2 k3 k4 RW ES
        go_wp2_with fail
        go_fit (unhide EC _)
        rintro r w8 ⟨rfl, hr8, hb8⟩
        have hJ4 : JL.length = 4 := by rw [unhide hJ]; rfl
        have hqo8 := hide (show w8.ownsRow w7.heap.size 38 2 (.slice (some ⟨w7.heap.size + 1, 0, none⟩) 4 4) JL.length (ptsV JL) by
          rw [unhide hJ]
          exact ⟨rfl, .inr ⟨w7.heap.size + 1, 4, _, rfl, Nat.le_succ _, hr8, Nat.le_refl _, by decide, rfl, rfl⟩⟩)
        have hb8h := hide hb8
        have G8 := hide ((unhide G).next hb8)
        generalize (some (⟨w7.heap.size + 1, 0, none⟩ : Addr)) = a8 at hqo8 ⊢
        clear hb8 hr8 EC hJ
        go_wp2_with (at_builtin; go_must (refine wpList_append_ll w8 rfl _ _ 24 rfl w.heap.size i2 (.slice none 0 0) 24 Tryt.underlying24 hi2 hz2 hs2 hb2 rfl _ L2.length vs2 (by rfl) (unhide G8).1 (.slice a8 4 4) rfl 1 (by rfl) (by have := unhide hlen3; unfold maxLen; omega) (by have := unhide hlen3; omega) (unhide G8).2.2.size ?_); intro v9 w9 ho9 hg9 _; have G9 := hide ((unhide G).push (unhide hb8h) (Nat.le_refl _) (unhide hqo8) ho9 hg9); obtain ⟨a9, n9, c9, rfl⟩ := own_form3 ho9; clear ho9 hg9)
        go_roundw
        case rel => exact ⟨_, rest, _, X, _, _, hes2, rfl, hX, hide (by rw [unhide hLn, unhide hstep]), G9⟩
        case measure => exact hsz
end Go.Proofs.YtmofjlonmggpmaaTw

/-
  The specification's StrokeOf. (By stroket.py.)
-/
namespace Go.Proofs.YtmofjlonmggpmaaTw
open Go.RowKit
set_option linter.unusedVariables false

set_option maxHeartbeats 4000000 in
set_option maxRecDepth 100000 in
theorem specJoint_any (x y W : Int) (hp : pointOkB x y = true) (hW : 1 ≤ W ∧ W ≤ 2048) (w : World) :
    Calls Tryt.prog 21 #[.agg #[.int .i64 x, .int .i64 y], .int .i64 W] w fun r w' => ∃ v, r = .returned v ∧ w'.ownsRow w.heap.size 38 2 v (jointW W (x, y)).length (ptsV (jointW W (x, y))) ∧ Below w.heap.size w w' := by
  obtain ⟨⟨a0, b0⟩, c0, d0⟩ := point_bd hp
  have e1 : W.tdiv 2 = W / 2 := by rw [Int.tdiv_eq_ediv_of_nonneg (by omega)]
  have h0 : 0 ≤ W / 2 ∧ W / 2 ≤ 1024 := by omega
  have hJ : jointW W (x, y) = [(x - W / 2, y - W / 2), (x - W / 2 + W, y - W / 2), (x - W / 2 + W, y - W / 2 + W), (x - W / 2, y - W / 2 + W)] := rfl
  rw [hJ]
  generalize W / 2 = h at e1 h0 ⊢
  have u0 : IntKind.i64.wrap h = h := IntWalk.i64_in _ (by omega)
  have u1 : IntKind.i64.wrap (x - h) = x - h := IntWalk.i64_in _ (by omega)
  have u2 : IntKind.i64.wrap (y - h) = y - h := IntWalk.i64_in _ (by omega)
  have u3 : IntKind.i64.wrap (x - h + W) = x - h + W := IntWalk.i64_in _ (by omega)
  have u4 : IntKind.i64.wrap (y - h + W) = y - h + W := IntWalk.i64_in _ (by omega)
  clear hp hJ
  go_enter Tryt.func21, Try.ntmps21
  go_upto_region 1 with fail
  have R := hide (new_row w (.cells #[.int .i64 x, .int .i64 y] 38))
  have HB := hide (al1_below w (.cells #[.int .i64 x, .int .i64 y] 38))
  generalize w.alloc (.cells #[.int .i64 x, .int .i64 y] 38) = V at R HB ⊢
  obtain ⟨b2, hb2⟩ : ∃ b, Hid (b = w.heap.size) := ⟨_, rfl⟩
  rw [← unhide hb2] at R ⊢
  obtain ⟨q0, q1⟩ := row2 (unhide R)
  go_wp2_with fail
  go_ret
  exact ⟨_, rfl, World.ownsRow_lit (base := w.heap.size) (e := 38) (size := 2) V #[.int .i64 (x - h), .int .i64 (y - h), .int .i64 (x - h + W), .int .i64 (y - h), .int .i64 (x - h + W), .int .i64 (y - h + W), .int .i64 (x - h), .int .i64 (y - h + W)] 4 (unhide HB).size (by decide) rfl, below_new _ (unhide HB) (Nat.le_refl _)⟩

set_option maxHeartbeats 16000000 in
set_option maxRecDepth 100000 in
theorem specStrokeOf_any (N : Nat) (ln : Nat → Nat) (pf : Nat → Nat → Pt) (hN : N ≤ 4300000000000) (hl : ∀ i, i < N → ln i ≤ 1048576) (hT : sumLn ln N ≤ 2900000000000) (la : Option Addr) (lc : Nat) (W : Int) (w : World) (HL : ∀ i, i < N → LArg w la i (ln i) (pf i)) :
    Calls Tryt.prog 6 #[.slice la N lc, .int .i64 W] w fun r w' => ∃ v, r = .returned v ∧ LinesV w' w.heap.size v (strokeA W N ln pf) ∧ Below w.heap.size w w' := by
  obtain ⟨i2, hi2, hz2, hs2, hb2⟩ := info_parts infoPts
  have EW := hide (l01In_any W 1 2048)
  have hno := hide (fun (h : inB W 1 2048 = false) => show strokeA W N ln pf = [] from if_neg (fun e => by rw [h] at e; cases e.1))
  have hbad := hide (fun (i j : Nat) (hi : i < N) (hj : j < ln i) (h : pointOkB (pf i j).1 (pf i j).2 = false) => show strokeA W N ln pf = [] from if_neg (fun e => by have := e.2 i hi j hj; rw [h] at this; cases this))
  have hyes := hide (fun (h : inB W 1 2048 = true) (ha : AllPt N ln pf) => show strokeA W N ln pf = strokeN W ln pf N from if_pos ⟨h, ha⟩)
  generalize strokeA W N ln pf = R at hno hbad hyes ⊢
  replace HL := hide HL
  have hT2 := hide (fun k (hk : k < N) m (hm : m ≤ ln k) => show (strokeN W ln pf k).length + (strokeL W (pf k) (ln k) m).length + 2 ≤ 5800000000002 by
    have h1 := strokeN_len W ln pf k
    have h2 := strokeL_len W (pf k) (ln k) m
    have h3 := sumLn_le (ln := ln) (show k + 1 ≤ N by omega)
    simp only [sumLn] at h3
    omega)
  clear hT
  go_enter Tryt.func6, Try.ntmps6
  go_upto_region 2 with fail
  have G := hide (GL.begin w w (Below.refl _ _))
  generalize w.alloc (.cells #[] 32) = V at G ⊢
  generalize (some (⟨w.heap.size, 0, none⟩ : Addr)) = a5 at G ⊢
  go_wp2_with fail
  go_fit (unhide EW _)
  rintro r w1 ⟨rfl, rfl⟩
  cases hw : inB W 1 2048 with
  | false =>
    have hR := hide (unhide hno hw)
    go_wp2_with fail
    go_ret
    exact ⟨_, rfl, by rw [unhide hR]; exact (unhide G).lines, (unhide G).2.2⟩
  | true =>
  have hW := inB_true.1 hw
  replace hyes := hide (unhide hyes hw)
  clear hno hw EW
  go_wp2_with fail
  go_loopw [5, 6] (fun v i u => ∃ (k : Nat) (vs : List Value) (L : List (List Pt)), k ≤ N ∧ i = .int .i64 (k : Int) ∧ Hid (L = strokeN W ln pf k) ∧ Hid (GL w u v L vs) ∧ Hid (∀ a, a < k → ∀ j, j < ln a → pointOkB (pf a j).1 (pf a j).2 = true)) (fun _ i _ => N - (intOf i).toNat)
  case atStart => exact ⟨0, [], [], Nat.zero_le _, rfl, rfl, G, fun a h => absurd h (by omega)⟩
  case round =>
    clear G
    obtain ⟨k, vs, LK, hk, rfl, hLK, G, OK⟩ := hrel
    obtain ⟨av, cv, e1⟩ := (unhide G).form
    subst e1
    by_cases hlt : k < N
    · have hlt' : (k : Int) < (N : Int) := by omega
      obtain ⟨s, o, x, c, hla, hc1, hc2⟩ := unhide HL k hlt
      subst hla
      have HH := hide (fun u (hu : Below w.heap.size w u) => show u.cell? ⟨s, o + k, none⟩ = some (.slice x (ln k) c) ∧ ∀ j, j < ln k → PtArg u x j (pf k j) from ⟨kc hu hc1, fun j hj => (hc2 j hj).next hu⟩)
      clear hc1 hc2
      have hlk := hl k hlt
      have hTk := hide (unhide hT2 k hlt)
      have hbk := hide (fun j hj h => unhide hbad k j hlt hj h)
      have hnext := hide (show strokeN W ln pf (k + 1) = LK ++ strokeL W (pf k) (ln k) (ln k) by rw [unhide hLK]; rfl)
      have hOKn := hide (fun (h : ∀ j, j < ln k → pointOkB (pf k j).1 (pf k j).2 = true) a (ha : a < k + 1) => show ∀ j, j < ln a → pointOkB (pf a j).1 (pf a j).2 = true by
        by_cases e : a = k
        · subst e; exact h
        · exact unhide OK a (by omega))
      rw [← unhide hLK] at hTk
      obtain ⟨n, hn⟩ : ∃ z, Hid (ln k = z) := ⟨_, rfl⟩
      obtain ⟨f, hf⟩ : ∃ z, Hid (pf k = z) := ⟨_, rfl⟩
      rw [unhide hn] at HH hlk hTk hbk hnext hOKn
      rw [unhide hf] at HH hTk hbk hnext hOKn
      clear hn hf hLK OK
      have hc0 := (unhide HH _ (unhide G).2.2).1
      go_upto_region 8 with fail
      go_loopw [5, 7] (fun v i u => ∃ (m : Nat) (vs : List Value) (L : List (List Pt)), m ≤ n ∧ i = .int .i64 (m : Int) ∧ Hid (L = LK ++ strokeL W f n m) ∧ Hid (GL w u v L vs) ∧ Hid (∀ j, j < m → pointOkB (f j).1 (f j).2 = true)) (fun _ i _ => n - (intOf i).toNat)
      case atStart => exact ⟨0, vs, LK, Nat.zero_le _, rfl, (List.append_nil _).symm, G, fun a h => absurd h (by omega)⟩
      case round =>
        clear G hc0
        obtain ⟨m, vs, L, hm, rfl, hL, G, OK⟩ := hrel
        obtain ⟨av, cv, e1⟩ := (unhide G).form
        subst e1
        have hc0 := (unhide HH _ (unhide G).2.2).1
        by_cases hlm : m < n
        · have hlm' : (m : Int) < (n : Int) := by omega
          have hlen := hide (show L.length + 2 ≤ 5800000000002 by rw [unhide hL, List.length_append]; exact unhide hTk m hm)
          obtain ⟨s2, o2, hx2, hq0, hq1⟩ := (unhide HH _ (unhide G).2.2).2 m hlm
          subst hx2
          obtain ⟨qx, hqx⟩ : ∃ z, Hid ((f m).1 = z) := ⟨_, rfl⟩
          obtain ⟨qy, hqy⟩ : ∃ z, Hid ((f m).2 = z) := ⟨_, rfl⟩
          rw [unhide hqx] at hq0
          rw [unhide hqy] at hq1
          go_wp2_with fail
          go_fit (specPointOk_any qx qy _)
          rintro r w3 ⟨rfl, hb⟩
          replace G := hide ((unhide G).next hb)
          clear hb hc0 hq0 hq1
          cases hok : pointOkB qx qy with
          | false =>
            have hR := hide (unhide hbk m hlm (by rw [unhide hqx, unhide hqy]; exact hok))
            have hE := hide (GL.begin w w3 (unhide G).2.2)
            go_wp2_with fail
            go_ret
            exact ⟨_, rfl, by rw [unhide hR]; exact (unhide hE).lines, (unhide hE).2.2⟩
          | true =>
          have OK2 := hide (fun j (hj : j < m + 1) => show pointOkB (f j).1 (f j).2 = true by
            by_cases e : j = m
            · subst e; rw [unhide hqx, unhide hqy]; exact hok
            · exact unhide OK j (by omega))
          clear OK
          replace hok := hide hok
          go_upto_if 40 with fail
          go_cut [5] (fun v u => ∃ (vs : List Value) (L' : List (List Pt)), Hid (L' = LK ++ strokeL W f n m ++ stepQ W f m) ∧ Hid (GL w u v L' vs))
          case first =>
            by_cases h0 : m = 0
            · have hng : ¬ (0 : Int) < (m : Int) := by omega
              have hs0 := hide (show stepQ W f m = [] from if_neg (fun e => by omega))
              clear h0
              go_wp2_with fail
              go_meet
              exact ⟨vs, L, by rw [unhide hs0, List.append_nil]; exact hL, G⟩
            · have hgt : (0 : Int) < (m : Int) := by omega
              obtain ⟨px, hpx⟩ : ∃ z, Hid ((f (m - 1)).1 = z) := ⟨_, rfl⟩
              obtain ⟨py, hpy⟩ : ∃ z, Hid ((f (m - 1)).2 = z) := ⟨_, rfl⟩
              have hw1 : IntKind.i64.wrap ((m : Int) - 1) = ((m - 1 : Nat) : Int) := by rw [IntWalk.i64_in _ (by omega)]; omega
              have hlm1 : ((m - 1 : Nat) : Int) < (n : Int) := by omega
              obtain ⟨QL, hQL⟩ : ∃ z, Hid (quadW W (f (m - 1)) (f m) = z) := ⟨_, rfl⟩
              have EQ := hide (fun u => show Calls Tryt.prog 20 #[.agg #[.int .i64 px, .int .i64 py], .agg #[.int .i64 qx, .int .i64 qy], .int .i64 W] u (fun r w' => ∃ v, r = .returned v ∧ w'.ownsRow u.heap.size 38 2 v QL.length (ptsV QL) ∧ Below u.heap.size u w') by
                have h := specQuadOf_any (f (m - 1)).1 (f (m - 1)).2 (f m).1 (f m).2 W (lenC (f (m - 1)) (f m)) (lenC_is _ _) u
                rw [show quadC (f (m - 1)).1 (f (m - 1)).2 (f m).1 (f m).2 W (lenC (f (m - 1)) (f m)) = quadW W (f (m - 1)) (f m) from rfl, unhide hQL, unhide hpx, unhide hpy, unhide hqx, unhide hqy] at h
                exact h)
              have hqy0 := hide (fun (h : 0 < QL.length) => show stepQ W f m = [QL] by unfold stepQ; rw [unhide hQL, if_pos ⟨by omega, h⟩])
              have hqn0 := hide (fun (h : ¬ 0 < QL.length) => show stepQ W f m = [] by unfold stepQ; rw [unhide hQL, if_neg (fun e => h e.2)])
              have hS13 := hide (fun u (hu : Below w3.heap.size w3 u) => show Hid (Below w3.heap.size w3 u) ∧ u.cell? ⟨s, o + k, none⟩ = some (.slice (some ⟨s2, o2, none⟩) n c) ∧ u.cell? ⟨s2, o2 + (m - 1) * 2, none⟩ = some (.int .i64 px) ∧ u.cell? ⟨s2, o2 + (m - 1) * 2 + 1, none⟩ = some (.int .i64 py) ∧ u.cell? ⟨s2, o2 + m * 2, none⟩ = some (.int .i64 qx) ∧ u.cell? ⟨s2, o2 + m * 2 + 1, none⟩ = some (.int .i64 qy) by
                obtain ⟨h1, h2⟩ := unhide HH u (below_two (unhide G).2.2 hu)
                obtain ⟨_, _, e1, p0, p1⟩ := h2 (m - 1) (by omega)
                cases e1
                obtain ⟨_, _, e2, p2, p3⟩ := h2 m hlm
                cases e2
                exact ⟨hu, h1, by rw [← unhide hpx]; exact p0, by rw [← unhide hpy]; exact p1, by rw [← unhide hqx]; exact p2, by rw [← unhide hqy]; exact p3⟩)
              clear hpx hpy hQL h0
              go_upto_region 13 with fail
              refine wp_region_held_drew (S := (fun u => Hid (Below w3.heap.size w3 u) ∧ u.cell? ⟨s, o + k, none⟩ = some (.slice (some ⟨s2, o2, none⟩) n c) ∧ u.cell? ⟨s2, o2 + (m - 1) * 2, none⟩ = some (.int .i64 px) ∧ u.cell? ⟨s2, o2 + (m - 1) * 2 + 1, none⟩ = some (.int .i64 py) ∧ u.cell? ⟨s2, o2 + m * 2, none⟩ = some (.int .i64 qx) ∧ u.cell? ⟨s2, o2 + m * 2 + 1, none⟩ = some (.int .i64 qy))) (by kernel_rfl) ?_ (fun hHeld => ?_)
              · exact unhide hS13 _ (Below.refl _ _).drew
              refine wpAnyH_take (i := 0) (oi := { dst := some 41, op := Op.move (Operand.tmp 0), type := 24, pos := "l08_stroke.go:48", after := #[], guard := none }) (v := ?_) rfl (by kernel_rfl) (by kernel_rfl) (by kernel_rfl) (fun _ _ _ h => h) (Or.inl ⟨by rfl, ?_⟩) (by assumption) ?_
              rotate_left
              · intro w hSw; (try dsimp only at hSw); go_simp <;> with_reducible rfl
              try simp only [Act.put, List.setIfInBounds_toArray, List.set_cons_zero, List.set_cons_succ]
              refine wpAnyH_take (i := 1) (oi := { dst := some 42, op := Op.move (Operand.tmp 6), type := 3, pos := "l08_stroke.go:48", after := #[], guard := none }) (v := ?_) rfl (by kernel_rfl) (by kernel_rfl) (by kernel_rfl) (fun _ _ _ h => h) (Or.inl ⟨by rfl, ?_⟩) (by assumption) ?_
              rotate_left
              · intro w hSw; (try dsimp only at hSw); go_simp <;> with_reducible rfl
              try simp only [Act.put, List.setIfInBounds_toArray, List.set_cons_zero, List.set_cons_succ]
              refine wpAnyH_take (i := 2) (oi := { dst := some 43, op := Op.indexAddr 24 (Operand.tmp 41) (Operand.tmp 42), type := 0, pos := "l08_stroke.go:48", after := #[{ on := 0, ground := Ground.data }, { on := 1, ground := Ground.data }], guard := none }) (v := ?_) rfl (by kernel_rfl) (by kernel_rfl) (by kernel_rfl) (fun _ _ _ h => h) (Or.inl ⟨by rfl, ?_⟩) (by assumption) ?_
              rotate_left
              · intro w hSw; (try dsimp only at hSw); go_simp <;> with_reducible rfl
              try simp only [Act.put, List.setIfInBounds_toArray, List.set_cons_zero, List.set_cons_succ]
              refine wpAnyH_take (i := 3) (oi := { dst := some 44, op := Op.load 32 (Operand.tmp 43), type := 32, pos := "l08_stroke.go:48", after := #[{ on := 2, ground := Ground.data }], guard := none }) (v := ?_) rfl (by kernel_rfl) (by kernel_rfl) (by kernel_rfl) (fun _ _ _ h => h) (Or.inl ⟨by rfl, ?_⟩) (by assumption) ?_
              rotate_left
              · intro w hSw; (try dsimp only at hSw); go_simp <;> with_reducible rfl
              try simp only [Act.put, List.setIfInBounds_toArray, List.set_cons_zero, List.set_cons_succ]
              refine wpAnyH_take (i := 4) (oi := { dst := some 45, op := Op.move (Operand.tmp 7), type := 3, pos := "l08_stroke.go:48", after := #[], guard := none }) (v := ?_) rfl (by kernel_rfl) (by kernel_rfl) (by kernel_rfl) (fun _ _ _ h => h) (Or.inl ⟨by rfl, ?_⟩) (by assumption) ?_
              rotate_left
              · intro w hSw; (try dsimp only at hSw); go_simp <;> with_reducible rfl
              try simp only [Act.put, List.setIfInBounds_toArray, List.set_cons_zero, List.set_cons_succ]
              refine wpAnyH_take (i := 5) (oi := { dst := some 46, op := Op.binOp BinOp.sub 3 (Operand.tmp 45) (Operand.const (Value.int IntKind.i64 1)) 3, type := 3, pos := "l08_stroke.go:48", after := #[{ on := 4, ground := Ground.data }], guard := none }) (v := ?_) rfl (by kernel_rfl) (by kernel_rfl) (by kernel_rfl) (fun _ _ _ h => h) (Or.inl ⟨by rfl, ?_⟩) (by assumption) ?_
              rotate_left
              · intro w hSw; (try dsimp only at hSw); go_simp <;> with_reducible rfl
              try simp only [Act.put, List.setIfInBounds_toArray, List.set_cons_zero, List.set_cons_succ]
              refine wpAnyH_take (i := 6) (oi := { dst := some 47, op := Op.indexAddr 32 (Operand.tmp 44) (Operand.tmp 46), type := 0, pos := "l08_stroke.go:48", after := #[{ on := 3, ground := Ground.data }, { on := 5, ground := Ground.data }], guard := none }) (v := ?_) rfl (by kernel_rfl) (by kernel_rfl) (by kernel_rfl) (fun _ _ _ h => h) (Or.inl ⟨by rfl, ?_⟩) (by assumption) ?_
              rotate_left
              · intro w hSw; (try dsimp only at hSw); go_simp <;> with_reducible rfl
              try simp only [Act.put, List.setIfInBounds_toArray, List.set_cons_zero, List.set_cons_succ]
              refine wpAnyH_take (i := 7) (oi := { dst := some 48, op := Op.load 38 (Operand.tmp 47), type := 38, pos := "l08_stroke.go:48", after := #[{ on := 6, ground := Ground.data }], guard := none }) (v := ?_) rfl (by kernel_rfl) (by kernel_rfl) (by kernel_rfl) (fun _ _ _ h => h) (Or.inl ⟨by rfl, ?_⟩) (by assumption) ?_
              rotate_left
              · intro w hSw; (try dsimp only at hSw); go_simp <;> with_reducible rfl
              try simp only [Act.put, List.setIfInBounds_toArray, List.set_cons_zero, List.set_cons_succ]
              refine wpAnyH_take (i := 8) (oi := { dst := some 49, op := Op.move (Operand.tmp 0), type := 24, pos := "l08_stroke.go:48", after := #[], guard := none }) (v := ?_) rfl (by kernel_rfl) (by kernel_rfl) (by kernel_rfl) (fun _ _ _ h => h) (Or.inl ⟨by rfl, ?_⟩) (by assumption) ?_
              rotate_left
              · intro w hSw; (try dsimp only at hSw); go_simp <;> with_reducible rfl
              try simp only [Act.put, List.setIfInBounds_toArray, List.set_cons_zero, List.set_cons_succ]
              refine wpAnyH_take (i := 9) (oi := { dst := some 50, op := Op.move (Operand.tmp 6), type := 3, pos := "l08_stroke.go:48", after := #[], guard := none }) (v := ?_) rfl (by kernel_rfl) (by kernel_rfl) (by kernel_rfl) (fun _ _ _ h => h) (Or.inl ⟨by rfl, ?_⟩) (by assumption) ?_
              rotate_left
              · intro w hSw; (try dsimp only at hSw); go_simp <;> with_reducible rfl
              try simp only [Act.put, List.setIfInBounds_toArray, List.set_cons_zero, List.set_cons_succ]
              refine wpAnyH_take (i := 10) (oi := { dst := some 51, op := Op.indexAddr 24 (Operand.tmp 49) (Operand.tmp 50), type := 0, pos := "l08_stroke.go:48", after := #[{ on := 8, ground := Ground.data }, { on := 9, ground := Ground.data }], guard := none }) (v := ?_) rfl (by kernel_rfl) (by kernel_rfl) (by kernel_rfl) (fun _ _ _ h => h) (Or.inl ⟨by rfl, ?_⟩) (by assumption) ?_
              rotate_left
              · intro w hSw; (try dsimp only at hSw); go_simp <;> with_reducible rfl
              try simp only [Act.put, List.setIfInBounds_toArray, List.set_cons_zero, List.set_cons_succ]
              refine wpAnyH_take (i := 11) (oi := { dst := some 52, op := Op.load 32 (Operand.tmp 51), type := 32, pos := "l08_stroke.go:48", after := #[{ on := 10, ground := Ground.data }], guard := none }) (v := ?_) rfl (by kernel_rfl) (by kernel_rfl) (by kernel_rfl) (fun _ _ _ h => h) (Or.inl ⟨by rfl, ?_⟩) (by assumption) ?_
              rotate_left
              · intro w hSw; (try dsimp only at hSw); go_simp <;> with_reducible rfl
              try simp only [Act.put, List.setIfInBounds_toArray, List.set_cons_zero, List.set_cons_succ]
              refine wpAnyH_take (i := 12) (oi := { dst := some 53, op := Op.move (Operand.tmp 7), type := 3, pos := "l08_stroke.go:48", after := #[], guard := none }) (v := ?_) rfl (by kernel_rfl) (by kernel_rfl) (by kernel_rfl) (fun _ _ _ h => h) (Or.inl ⟨by rfl, ?_⟩) (by assumption) ?_
              rotate_left
              · intro w hSw; (try dsimp only at hSw); go_simp <;> with_reducible rfl
              try simp only [Act.put, List.setIfInBounds_toArray, List.set_cons_zero, List.set_cons_succ]
              refine wpAnyH_take (i := 13) (oi := { dst := some 54, op := Op.indexAddr 32 (Operand.tmp 52) (Operand.tmp 53), type := 0, pos := "l08_stroke.go:48", after := #[{ on := 11, ground := Ground.data }, { on := 12, ground := Ground.data }], guard := none }) (v := ?_) rfl (by kernel_rfl) (by kernel_rfl) (by kernel_rfl) (fun _ _ _ h => h) (Or.inl ⟨by rfl, ?_⟩) (by assumption) ?_
              rotate_left
              · intro w hSw; (try dsimp only at hSw); go_simp <;> with_reducible rfl
              try simp only [Act.put, List.setIfInBounds_toArray, List.set_cons_zero, List.set_cons_succ]
              refine wpAnyH_take (i := 14) (oi := { dst := some 55, op := Op.load 38 (Operand.tmp 54), type := 38, pos := "l08_stroke.go:48", after := #[{ on := 13, ground := Ground.data }], guard := none }) (v := ?_) rfl (by kernel_rfl) (by kernel_rfl) (by kernel_rfl) (fun _ _ _ h => h) (Or.inl ⟨by rfl, ?_⟩) (by assumption) ?_
              rotate_left
              · intro w hSw; (try dsimp only at hSw); go_simp <;> with_reducible rfl
              try simp only [Act.put, List.setIfInBounds_toArray, List.set_cons_zero, List.set_cons_succ]
              refine wpAnyH_take (i := 15) (oi := { dst := some 56, op := Op.move (Operand.tmp 1), type := 3, pos := "l08_stroke.go:48", after := #[], guard := none }) (v := ?_) rfl (by kernel_rfl) (by kernel_rfl) (by kernel_rfl) (fun _ _ _ h => h) (Or.inl ⟨by rfl, ?_⟩) (by assumption) ?_
              rotate_left
              · intro w hSw; (try dsimp only at hSw); go_simp <;> with_reducible rfl
              try simp only [Act.put, List.setIfInBounds_toArray, List.set_cons_zero, List.set_cons_succ]
              refine wpAnyH_ready (rs := [16]) (by kernel_rfl) (by simp) ?_
              refine AllReadyH.cons (o := { dst := some 57, op := Op.call { callee := Callee.value (Operand.func 20), args := #[Operand.tmp 48, Operand.tmp 55, Operand.tmp 56], argTypes := #[38, 38, 3] }, type := 32, pos := "l08_stroke.go:48", after := #[{ on := 7, ground := Ground.data }, { on := 14, ground := Ground.data }, { on := 15, ground := Ground.data }], guard := none }) rfl (fun K hK => ?_) AllReadyH.nil
              go_simp
              (first | (go_at_call 20; go_fit (unhide EQ _); rintro r wn ⟨qv, rfl, hqo, hbn⟩; replace hqo := hide hqo; have hge := hHeld.1; have sn := unhide hS13 _ (below_two (unhide hHeld.1) hbn)))
              refine hK.out _ _ ?_ (fun hHeld => ?_)
              · with_reducible exact sn
              clear hK K
              try simp only [Act.put, List.setIfInBounds_toArray, List.set_cons_zero, List.set_cons_succ]
              refine wpAnyH_take (i := 17) (oi := { dst := some 8, op := Op.assign (Operand.tmp 57), type := 32, pos := "l08_stroke.go:48", after := #[{ on := 16, ground := Ground.data }, { on := 16, ground := Ground.chain }, { on := 0, ground := Ground.phase }, { on := 1, ground := Ground.phase }, { on := 2, ground := Ground.phase }, { on := 3, ground := Ground.phase }, { on := 4, ground := Ground.phase }, { on := 5, ground := Ground.phase }, { on := 6, ground := Ground.phase }, { on := 7, ground := Ground.phase }, { on := 8, ground := Ground.phase }, { on := 9, ground := Ground.phase }, { on := 10, ground := Ground.phase }, { on := 11, ground := Ground.phase }, { on := 12, ground := Ground.phase }, { on := 13, ground := Ground.phase }, { on := 14, ground := Ground.phase }, { on := 15, ground := Ground.phase }, { on := 16, ground := Ground.phase }], guard := none }) (v := ?_) rfl (by kernel_rfl) (by kernel_rfl) (by kernel_rfl) (fun _ _ _ h => h) (Or.inl ⟨by rfl, ?_⟩) (by assumption) ?_
              rotate_left
              · intro w hSw; (try dsimp only at hSw); go_simp <;> with_reducible rfl
              try simp only [Act.put, List.setIfInBounds_toArray, List.set_cons_zero, List.set_cons_succ]
              refine wpAnyH_done (by kernel_rfl) ?_ _
              have hbn2 := hide (unhide hHeld.1)
              have hge2 := hide (unhide hge).size
              obtain ⟨aq, cq, eq⟩ := own_form (unhide hqo)
              subst eq
              have G2 := hide ((unhide G).next (unhide hbn2))
              clear hHeld sn hS13 EQ hge
              by_cases hql : 0 < QL.length
              · have hql' : (0 : Int) < (QL.length : Int) := by omega
                have hsq := hide (unhide hqy0 hql)
                clear hqy0 hqn0
                go_wp2_with (at_builtin; go_must (refine wpList_append_ll wn rfl _ _ 24 rfl w.heap.size i2 (.slice none 0 0) 24 Tryt.underlying24 hi2 hz2 hs2 hb2 rfl _ L.length vs (by rfl) (unhide G2).1 (.slice aq QL.length cq) rfl 1 (by rfl) (by have := unhide hlen; unfold maxLen; omega) (by have := unhide hlen; omega) (unhide G2).2.2.size ?_); intro v9 w9 ho9 hg9 _; have G9 := hide ((unhide G).push (unhide hbn2) (unhide hge2) (unhide hqo) ho9 hg9); obtain ⟨a9, n9, c9, rfl⟩ := own_form3 ho9; clear ho9 hg9)
                go_meet
                exact ⟨_, _, hide (by rw [unhide hsq, ← unhide hL]), G9⟩
              · have hql' : ¬ (0 : Int) < (QL.length : Int) := by omega
                have hsq := hide (unhide hqn0 hql)
                clear hqy0 hqn0
                go_wp2_with fail
                go_meet
                exact ⟨_, _, by rw [unhide hsq, List.append_nil]; exact hL, G2⟩
          case rest =>
          clear G
          obtain ⟨vs, L2, hL2, G⟩ := hcut
          obtain ⟨a5, c5, e1⟩ := (unhide G).form
          subst e1
          have hlen2 := hide (show L2.length + 1 ≤ 5800000000002 by
            have h1 := unhide hlen
            have h2 := stepQ_len W f m
            rw [unhide hL] at h1
            rw [unhide hL2, List.length_append]
            omega)
          obtain ⟨hc0, hpp⟩ := unhide HH _ (unhide G).2.2
          obtain ⟨_, _, e2, hq0, hq1⟩ := hpp m hlm
          cases e2
          rw [unhide hqx] at hq0
          rw [unhide hqy] at hq1
          have hwm : IntKind.i64.wrap ((m : Int) + 1) = ((m + 1 : Nat) : Int) := by rw [IntWalk.i64_in _ (by omega)]; omega
          clear hL hpp
          by_cases h0 : 0 < m
          · have hgt : (0 : Int) < (m : Int) := by omega
            by_cases h1 : m + 1 < n
            · have hgt1 : ((m + 1 : Nat) : Int) < (n : Int) := by omega
              have hst := hide (show strokeL W f n (m + 1) = strokeL W f n m ++ stepQ W f m ++ [jointW W (qx, qy)] by
                have : stepJ W f n m = [jointW W (f m)] := if_pos ⟨h0, h1⟩
                show strokeL W f n m ++ stepQ W f m ++ stepJ W f n m = _
                rw [this, show f m = (qx, qy) from Prod.ext (unhide hqx) (unhide hqy)])
              clear h0 h1
              go_wp2_with fail
              go_fit (specJoint_any qx qy W (unhide hok) hW _)
              rintro r w6 ⟨qv, rfl, hqo, hb6⟩
              obtain ⟨aq, cq, eq⟩ := own_form hqo
              subst eq
              have G2 := hide ((unhide G).next hb6)
              replace hqo := hide hqo
              replace hb6 := hide hb6
              clear hc0 hq0 hq1
              go_wp2_with (at_builtin; go_must (refine wpList_append_ll w6 rfl _ _ 24 rfl w.heap.size i2 (.slice none 0 0) 24 Tryt.underlying24 hi2 hz2 hs2 hb2 rfl _ L2.length vs (by rfl) (unhide G2).1 (.slice aq (jointW W (qx, qy)).length cq) rfl 1 (by rfl) (by have := unhide hlen2; unfold maxLen; omega) (by have := unhide hlen2; omega) (unhide G2).2.2.size ?_); intro v9 w9 ho9 hg9 _; have G9 := hide ((unhide G).push (unhide hb6) (Nat.le_refl _) (unhide hqo) ho9 hg9); obtain ⟨a9, n9, c9, rfl⟩ := own_form3 ho9; clear ho9 hg9)
              go_roundw
              case rel => exact ⟨m + 1, _, _, by omega, by go_num, hide (by rw [unhide hst, unhide hL2]; simp [List.append_assoc]), G9, OK2⟩
              case measure => simp [intOf]; omega
            · have hgt1 : ¬ ((m + 1 : Nat) : Int) < (n : Int) := by omega
              have hst := hide (show strokeL W f n (m + 1) = strokeL W f n m ++ stepQ W f m by
                have : stepJ W f n m = [] := if_neg (fun e => h1 e.2)
                show strokeL W f n m ++ stepQ W f m ++ stepJ W f n m = _
                rw [this, List.append_nil])
              clear h0 h1
              go_wp2_with fail
              go_roundw
              case rel => exact ⟨m + 1, _, _, by omega, by go_num, hide (by rw [unhide hst, unhide hL2]; simp [List.append_assoc]), G, OK2⟩
              case measure => simp [intOf]; omega
          · have hng : ¬ (0 : Int) < (m : Int) := by omega
            have hst := hide (show strokeL W f n (m + 1) = strokeL W f n m ++ stepQ W f m by
              have : stepJ W f n m = [] := if_neg (fun e => h0 e.1)
              show strokeL W f n m ++ stepQ W f m ++ stepJ W f n m = _
              rw [this, List.append_nil])
            clear h0
            go_wp2_with fail
            go_roundw
            case rel => exact ⟨m + 1, _, _, by omega, by go_num, hide (by rw [unhide hst, unhide hL2]; simp [List.append_assoc]), G, OK2⟩
            case measure => simp [intOf]; omega
        · have hme : m = n := by omega
          subst hme
          have hlm' : ¬ (m : Int) < (m : Int) := by omega
          have hLn := hide (show L = strokeN W ln pf (k + 1) by rw [unhide hnext]; exact unhide hL)
          have OKn := hide (unhide hOKn (unhide OK))
          go_wp2_with fail
          go_roundw
          case rel => exact ⟨k + 1, _, _, by omega, by go_num, hLn, G, OKn⟩
          case measure => simp [intOf]; omega
    · have hke : k = N := by omega
      subst hke
      have hlt' : ¬ (k : Int) < (k : Int) := by omega
      have hR := hide (unhide hyes (unhide OK))
      go_wp2_with fail
      go_ret
      exact ⟨_, rfl, by rw [unhide hR, ← unhide hLK]; exact (unhide G).lines, (unhide G).2.2⟩
end Go.Proofs.YtmofjlonmggpmaaTw

/-
  Lists of lists of points in the laws: alike, marked, held.
-/
namespace Go.Proofs.YtmofjlonmggpmaaTw
open Go.RowKit
set_option linter.unusedVariables false

/-- One list of a list of lists, and where it lies. -/
theorem line_at {u : World} {base base' e n c i : Nat} {g : Nat} {vs : List Value} {L : List (List Pt)} (ho : u.ownsRow base e 1 (.slice (some ⟨g, 0, none⟩) n c) n vs) (h : Lines u base' vs L) (hn : n = L.length) (hi : i < L.length) :
    ∃ a d, vs[i]? = some (.slice a L[i].length d) ∧ u.cell? ⟨g, i, none⟩ = some (.slice a L[i].length d) ∧ u.ownsRow base' 38 2 (.slice a L[i].length d) L[i].length (ptsV L[i]) := by
  have hv : i < vs.length := by rw [h.len]; exact hi
  have h1 := h.own i vs[i] L[i] (List.getElem?_eq_getElem hv) (List.getElem?_eq_getElem hi)
  obtain ⟨a, d, e⟩ := own_form h1
  refine ⟨a, d, by rw [List.getElem?_eq_getElem hv, e], by rw [ho.cellAt i (by omega), List.getElem?_eq_getElem hv, e], by rw [e] at h1; exact h1⟩
theorem LinesV.form {u : World} {base : Nat} {v : Value} {L : List (List Pt)} (h : LinesV u base v L) : ∃ a c, v = .slice a L.length c :=
  let ⟨_, h1, _⟩ := h; own_form h1

end Go.Proofs.YtmofjlonmggpmaaTw

/-
  Lists of lists of points that came in: their size, their copies, and that they are alike.
-/
namespace Go.Proofs.YtmofjlonmggpmaaTw
open Go.RowKit
set_option linter.unusedVariables false

def sumN (ln : Nat → Nat) : Nat → Nat
  | 0 => 0
  | k + 1 => sumN ln k + ln k
end Go.Proofs.YtmofjlonmggpmaaTw

/-
  Lists of lists of points that the laws hand over: each of one's own.
-/
namespace Go.Proofs.YtmofjlonmggpmaaTw
open Go.RowKit
set_option linter.unusedVariables false

end Go.Proofs.YtmofjlonmggpmaaTw

/-
  Lists of lists of points that a call hands back, and what later calls write.
-/
namespace Go.Proofs.YtmofjlonmggpmaaTw
open Go.RowKit
set_option linter.unusedVariables false

end Go.Proofs.YtmofjlonmggpmaaTw

/-
  The exact law of StrokeOf, over the twin.
-/
namespace Go.Proofs.YtmofjlonmggpmaaTw
open Go.RowKit
set_option linter.unusedVariables false

end Go.Proofs.YtmofjlonmggpmaaTw

/-
  The cursor that draws numbers out of the bytes of a law's argument: what it hands back is some number in its range, and nothing but the cursor's own block is written.
-/
namespace Go.Proofs.YtmofjlonmggpmaaTw
open Go.RowKit

/-- What a walk is told of a slice of integers that came in. -/
def IsRow (k : IntKind) (w : World) (a : Option Addr) (len cap : Nat) (zs : List Int) : Prop :=
  (a = none ∧ len = 0 ∧ cap = 0 ∧ zs = []) ∨
  ∃ x, a = some x ∧ len ≤ cap ∧ cap ≤ maxLen ∧ zs.length = cap ∧ (∀ i, i < zs.length → w.cell? (x.add i) = some (.int k (zs.getD i 0))) ∧ ∀ n ∈ zs, (Lit.int k n).wf = true

/-- The bytes that came in lie in blocks below B. -/
def InB (B : Nat) (w : World) (a : Option Addr) (len : Nat) : Prop :=
  ∀ j, j < len → ∃ b off, ∃ z : Nat, a = some ⟨b, off, none⟩ ∧ b < B ∧ z < 256 ∧ w.cell? ⟨b, off + j, none⟩ = some (.int .u8 (z : Int))

theorem InB.below {B : Nat} {w w' : World} {a : Option Addr} {len : Nat} (h : InB B w a len) (hb : Below B w w') : InB B w' a len := fun j hj => by
  obtain ⟨b, off, z, h1, h2, h3, h4⟩ := h j hj
  exact ⟨b, off, z, h1, h2, h3, (hb.cell (p := ⟨b, off + j, none⟩) h2).trans h4⟩

theorem InB.next {w w' : World} {a : Option Addr} {len : Nat} (h : InB w.heap.size w a len) (hb : Below w.heap.size w w') : InB w'.heap.size w' a len := fun j hj => by
  obtain ⟨b, off, z, h1, h2, h3, h4⟩ := h.below hb j hj
  exact ⟨b, off, z, h1, Nat.lt_of_lt_of_le h2 hb.size, h3, h4⟩

theorem InB.of_row {w : World} {a : Option Addr} {len cap : Nat} {zs : List Int} (h : IsRow .u8 w a len cap zs) : InB w.heap.size w a len := by
  rcases h with ⟨_, rfl, _, _⟩ | ⟨x, rfl, hl, _, hz, hc, hw⟩
  · intro j hj; omega
  · intro j hj
    obtain ⟨b, off, spot⟩ := x
    have hcj := hc j (by omega)
    have hwf := hw (zs.getD j 0) (by rw [List.getD_eq_getElem?_getD, List.getElem?_eq_getElem (by omega)]; exact List.getElem_mem _)
    obtain ⟨b1, b2⟩ := bounds_u8 hwf
    have hspot : spot = none := by simpa [Addr.add] using World.cell?_spot (hc 0 (by omega))
    subst hspot
    have hadd : (⟨b, off, none⟩ : Addr).add j = ⟨b, off + j, none⟩ := by unfold Addr.add; split <;> simp_all
    rw [hadd] at hcj
    refine ⟨b, off, (zs.getD j 0).toNat, rfl, World.block_lt_of_cell? w _ hcj, by omega, ?_⟩
    rw [hcj]
    congr 2
    omega

/-- The cursor lies in block g. -/
def Cur (w : World) (g : Nat) (a : Option Addr) (len cap : Nat) : Prop :=
  ∃ (i : Nat) (h : Int), w.heap[g]? = some (.cells #[.slice a len cap, .int .i64 (i : Int), .int .i64 h] 72 (0, 0)) ∧ i ≤ len

theorem i64_and255 (n : Int) : bits .and .i64 n 255 = n % 256 := by
  have h255 : (BitVec.ofInt 64 255).toNat = 2 ^ 8 - 1 := by decide
  have key : (BitVec.ofInt 64 n &&& BitVec.ofInt 64 255).toNat = (n % ((2 ^ 64 : Nat) : Int)).toNat % 2 ^ 8 := by
    rw [BitVec.toNat_and, BitVec.toNat_ofInt, h255, Nat.and_two_pow_sub_one_eq_mod]
  show IntKind.i64.wrap ((BitVec.ofInt 64 n &&& BitVec.ofInt 64 255).toNat : Nat) = n % 256
  rw [key, IntKind.wrap_i64]
  omega

theorem small_nat (n : Int) : ∃ x : Nat, x < 256 ∧ n % 256 = (x : Int) := ⟨(n % 256).toNat, by omega, by omega⟩

theorem grown_set (w : World) (g j : Nat) (u : Value) : w.grownBy (w.setCell ⟨g, j, none⟩ u) (some g) :=
  ⟨rfl, rfl, rfl, by simp, fun k _ hk => heap_setCell_other w ⟨g, j, none⟩ k u (fun e => hk (by simp [e]))⟩

theorem grown_drews {w a : World} {row : Option Nat} (h : w.grownBy a row) (n : Nat) : w.grownBy (a.drewN n) row := ⟨h.os, h.tape, h.output, h.size, h.block⟩

theorem cur_two {w : World} {g : Nat} {a : Option Addr} {len cap : Nat} {i : Nat} {h H : Int} (hg : w.heap[g]? = some (.cells #[.slice a len cap, .int .i64 (i : Int), .int .i64 h] 72 (0, 0))) (hi : i ≤ len) :
    Cur (w.setCell ⟨g, 2, none⟩ (.int .i64 H)) g a len cap := ⟨i, H, heap_setCell_same w g 2 _ _ _ hg, hi⟩

theorem cur_one {w : World} {g : Nat} {a : Option Addr} {len cap : Nat} {i : Nat} {h H : Int} (hg : w.heap[g]? = some (.cells #[.slice a len cap, .int .i64 (i : Int), .int .i64 h] 72 (0, 0))) (hi : i < len) :
    Cur ((w.setCell ⟨g, 2, none⟩ (.int .i64 H)).setCell ⟨g, 1, none⟩ (.int .i64 ((i : Int) + 1))) g a len cap := by
  have h2 : (w.setCell ⟨g, 2, none⟩ (.int .i64 H)).heap[g]? = some (.cells #[.slice a len cap, .int .i64 (i : Int), .int .i64 H] 72 (0, 0)) := heap_setCell_same w g 2 _ _ _ hg
  exact ⟨i + 1, H, heap_setCell_same _ g 1 _ _ _ h2, hi⟩

set_option maxHeartbeats 1000000 in
set_option maxRecDepth 100000 in
theorem l01Byte_any (g B : Nat) (a : Option Addr) (len cap : Nat) (w : World) (hl : len ≤ 1048576) (hB : B ≤ g) (hin : InB B w a len) (hc : Cur w g a len cap) :
    Calls Tryt.prog 35 #[.pointer (some ⟨g, 0, none⟩)] w fun e w' => ∃ x : Nat, x < 256 ∧ e = .returned (.int .i64 (x : Int)) ∧ Cur w' g a len cap ∧ w.grownBy w' (some g) := by
  obtain ⟨i, h, hg, hi⟩ := hc
  have c0 : w.cell? ⟨g, 0, none⟩ = some (.slice a len cap) := by rw [cell_of_row w g 0 _ _ _ hg]; rfl
  have c1 : w.cell? ⟨g, 1, none⟩ = some (.int .i64 (i : Int)) := by rw [cell_of_row w g 1 _ _ _ hg]; rfl
  have c2 : w.cell? ⟨g, 2, none⟩ = some (.int .i64 h) := by rw [cell_of_row w g 2 _ _ _ hg]; rfl
  have f1 : w.frozen? ⟨g, 1, none⟩ = false := frozen_of_row w g 1 _ _ hg
  have f2 : w.frozen? ⟨g, 2, none⟩ = false := frozen_of_row w g 2 _ _ hg
  have HG := hide hg
  have HI := hide hin
  have hand : ∀ n : Int, bits .and .i64 n 255 = n % 256 := i64_and255
  clear hg hin
  by_cases hlt : i < len
  · obtain ⟨b, off, z, rfl, hbB, hz, hcz⟩ := unhide HI i hlt
    have hcz' : ∀ u, (w.setCell ⟨g, 2, none⟩ u).cell? ⟨b, off + i, none⟩ = some (.int .u8 (z : Int)) := fun u => (World.cell?_of_block (w := w) (heap_setCell_other w ⟨g, 2, none⟩ b u (by show b ≠ g; omega))).trans hcz
    have hli : (i : Int) < (len : Int) := by omega
    have hi0 : (0 : Int) ≤ (i : Int) := by omega
    go_enter Tryt.func35, Try.ntmps35
    go_wp2
    generalize wrap64 (wrap64 (h * 6364136223846793005) + 1442695040888963407) = H
    go_quiet (fail)
    go_wp2
    generalize bits .xor .i64 (H / 8589934592) (H / 35184372088832) = Y
    go_quiet (fail)
    go_wp2
    go_quiet (fail)
    go_wp2
    go_ret
    obtain ⟨x, hx, hxe⟩ := small_nat (Y + (z : Int))
    exact ⟨x, hx, ret_i64 hxe, cur_one (unhide HG) hlt, grown_trans (grown_drews (grown_set w g 2 _) _) (grown_set _ g 1 _)⟩
  · have hli : ¬ (i : Int) < (len : Int) := by omega
    go_enter Tryt.func35, Try.ntmps35
    go_wp2
    generalize wrap64 (wrap64 (h * 6364136223846793005) + 1442695040888963407) = H
    go_quiet (fail)
    go_wp2
    generalize bits .xor .i64 (H / 8589934592) (H / 35184372088832) = Y
    go_quiet (fail)
    go_wp2
    go_ret
    obtain ⟨x, hx, hxe⟩ := small_nat Y
    exact ⟨x, hx, ret_i64 hxe, cur_two (unhide HG) hi, grown_drews (grown_drews (grown_set w g 2 _) _) _⟩

/-- The cursor carried over a call that turns nothing old. -/
theorem Cur.grown {w w' : World} {g : Nat} {a : Option Addr} {len cap : Nat} {row : Option Nat} (h : Cur w g a len cap) (hg : w.grownBy w' row) (hr : row ≠ some g) : Cur w' g a len cap := by
  obtain ⟨i, hh, h1, h2⟩ := h
  refine ⟨i, hh, ?_, h2⟩
  rw [hg.block g (Array.getElem?_eq_some_iff.1 h1).1 (fun e => hr e.symm)]
  exact h1
theorem Cur.lt {w : World} {g : Nat} {a : Option Addr} {len cap : Nat} (h : Cur w g a len cap) : g < w.heap.size := by
  obtain ⟨i, hh, h1, h2⟩ := h
  exact (Array.getElem?_eq_some_iff.1 h1).1
theorem InB.grown {B g : Nat} {w w' : World} {a : Option Addr} {len : Nat} (h : InB B w a len) (hg : w.grownBy w' (some g)) (hB : B ≤ g) (hs : B ≤ w.heap.size) : InB B w' a len :=
  h.below (below_of_grown hg hs (fun k hk => by cases hk; exact hB))

theorem mod_nat {x n : Nat} (h : 0 < n) : ∃ y : Nat, y < n ∧ (x : Int) % (n : Int) = (y : Int) := ⟨x % n, Nat.mod_lt _ h, by simp⟩

set_option maxHeartbeats 1000000 in
theorem l01Below_any (g B : Nat) (a : Option Addr) (len cap : Nat) (n : Nat) (hn : 0 < n) (hn2 : n ≤ 4294967296) (w : World) (hl : len ≤ 1048576) (hB : B ≤ g) (hs : B ≤ w.heap.size) (hin : InB B w a len) (hc : Cur w g a len cap) :
    Calls Tryt.prog 33 #[.pointer (some ⟨g, 0, none⟩), .int .i64 (n : Int)] w fun e w' => ∃ x : Nat, x < n ∧ e = .returned (.int .i64 (x : Int)) ∧ Cur w' g a len cap ∧ w.grownBy w' (some g) := by
  have HC := hide hc
  have HI := hide hin
  clear hc hin
  have hn0 : ¬ (n : Int) ≤ 0 := by omega
  by_cases h256 : n ≤ 256
  · go_enter Tryt.func33, Try.ntmps33
    go_wp2_with (go_at_call 35; go_must (refine (l01Byte_any g B a len cap _ hl hB (unhide HI) (unhide HC)).mono ?_); rintro e w1 ⟨x, hx, rfl, hc1, hg1⟩; have C1 := hide hc1; have G1 := hide hg1; clear hc1 hg1)
    go_ret
    obtain ⟨y, hy, hye⟩ := mod_nat (x := x) hn
    exact ⟨y, hy, ret_i64 hye, unhide C1, unhide G1⟩
  · have h256' : ¬ (n : Int) ≤ 256 := by omega
    go_enter Tryt.func33, Try.ntmps33
    go_wp2_with fail
    refine (l01Byte_any g B a len cap _ hl hB (unhide HI) (unhide HC)).mono ?_
    rintro e w1 ⟨x1, hx1, rfl, hc1, hg1⟩
    have I1 := hide ((unhide HI).grown hg1 hB hs)
    have S1 := hide (Nat.le_trans hs hg1.size)
    have C1 := hide hc1
    have G1 := hide hg1
    clear hc1 hg1
    go_wp2_with fail
    refine (l01Byte_any g B a len cap _ hl hB (unhide I1) (unhide C1)).mono ?_
    rintro e w2 ⟨x2, hx2, rfl, hc2, hg2⟩
    have I2 := hide ((unhide I1).grown hg2 hB (unhide S1))
    have S2 := hide (Nat.le_trans (unhide S1) hg2.size)
    have C2 := hide hc2
    have G2 := hide (grown_trans (unhide G1) hg2)
    clear hc2 hg2
    go_wp2_with fail
    refine (l01Byte_any g B a len cap _ hl hB (unhide I2) (unhide C2)).mono ?_
    rintro e w3 ⟨x3, hx3, rfl, hc3, hg3⟩
    have I3 := hide ((unhide I2).grown hg3 hB (unhide S2))
    have C3 := hide hc3
    have G3 := hide (grown_trans (unhide G2) hg3)
    clear hc3 hg3
    go_wp2_with fail
    refine (l01Byte_any g B a len cap _ hl hB (unhide I3) (unhide C3)).mono ?_
    rintro e w4 ⟨x4, hx4, rfl, hc4, hg4⟩
    have C4 := hide hc4
    have G4 := hide (grown_trans (unhide G3) hg4)
    clear hc4 hg4
    go_wp2
    go_ret
    obtain ⟨y, hy, hye⟩ := mod_nat (x := x1 * 16777216 + x2 * 65536 + x3 * 256 + x4) hn
    exact ⟨y, hy, ret_i64 (by rw [← hye]; simp), unhide C4, unhide G4⟩

set_option maxHeartbeats 1000000 in
set_option maxRecDepth 100000 in
theorem l01New_any (a : Option Addr) (len cap : Nat) (w : World) (hl : len ≤ 1048576) (hin : InB w.heap.size w a len) :
    Calls Tryt.prog 32 #[.slice a len cap] w fun e w' => ∃ g, w.heap.size ≤ g ∧ e = .returned (.pointer (some ⟨g, 0, none⟩)) ∧ Cur w' g a len cap ∧ Below w.heap.size w w' := by
  have HI := hide hin
  clear hin
  go_enter Tryt.func32, Try.ntmps32
  go_wp2
  go_loop [3, 4] (fun t i => ∃ (h : Int) (k : Nat), t = .int .i64 h ∧ i = .int .i64 k ∧ k ≤ len ∧ k ≤ 4000) (fun _ i => 4000 - (intOf i).toNat)
  case atStart => exact ⟨_, 0, rfl, rfl, by omega, by omega⟩
  case round =>
    obtain ⟨h, k, rfl, rfl, hk, hk2⟩ := hrel
    by_cases hlt : k < len
    · by_cases h4 : k < 4000
      · obtain ⟨b, off, z, rfl, hbB, hz, hcz⟩ := unhide HI k hlt
        have hli : (k : Int) < (len : Int) := by omega
        have hi0 : (0 : Int) ≤ (k : Int) := by omega
        go_wp2
        go_round
        case rel => exact ⟨_, k + 1, rfl, by go_num, by omega, by omega⟩
        case measure => simp [intOf]; omega
      · have hli : (k : Int) < (len : Int) := by omega
        have h4' : ¬ (k : Int) < 4000 := by omega
        go_wp2
        go_ret
        exact ⟨_, Nat.le_refl _, rfl, ⟨0, _, heap_alloc_new _ _, by omega⟩, (Below.refl _ _).alloc (Nat.le_refl _) _⟩
    · have hli : ¬ (k : Int) < (len : Int) := by omega
      go_wp2
      go_ret
      exact ⟨_, Nat.le_refl _, rfl, ⟨0, _, heap_alloc_new _ _, by omega⟩, (Below.refl _ _).alloc (Nat.le_refl _) _⟩

/-- A row of the call's own above the cursor. -/
theorem own_grown {w w' : World} {g base e size n : Nat} {v : Value} {xs : List Value} (h : w.ownsRow base e size v n xs) (hg : w.grownBy w' (some g)) (hlt : g < base) : w'.ownsRow base e size v n xs :=
  h.kept hg (by
    cases hk : v.ownBlock with
    | none => exact .inl rfl
    | some k => refine .inr fun he => ?_; have := (h.lt k hk).1; cases he; omega)

theorem grown_own {w0 a b : World} {g : Nat} {row : Option Nat} (h : w0.grownBy a (some g)) (k : a.grownBy b row) (hr : ∀ k, row = some k → w0.heap.size ≤ k) : w0.grownBy b (some g) :=
  ⟨k.os.trans h.os, k.tape.trans h.tape, k.output.trans h.output, Nat.le_trans h.size k.size, fun i hi hn => (k.block i (Nat.lt_of_lt_of_le hi h.size) (fun e => by have := hr i e.symm; omega)).trans (h.block i hi hn)⟩

/-- 'append' of one-cell elements beside the cursor. -/
theorem wpList_append_cur {P : Program} {ops : Array Oper} {rest : List Oper} {o : Oper} {ac : Act} {Q : Exit → Act → World → Prop} (wr : World) (hgd : o.guard = none) (s x : Operand) (t e : TypeId)
    (ho : o.op = .call { callee := .builtin .append, args := #[s, x], argTypes := #[t, t] })
    (base : Nat) (i : TypeInfo) (z : Value) (bytes : Nat) (ht : P.underlying t = some (.slice e)) (hi : P.info? e = some i) (hz : i.zero = some z) (hsize : i.size = 1) (hby : i.bytes = bytes) (hz1 : z.cells.size = 1)
    (v : Value) (xs : List Value) (hs : ac.eval s = v) (hown : wr.ownsRow base e 1 v xs.length xs)
    (cs : Array Value) (h1 : ∀ u ∈ cs.toList, u.oneCell' = true) (m c : Nat) (hm : m = cs.size) (hx : ac.eval x = .slice (some ⟨wr.heap.size, 0, none⟩) m c)
    (h63 : xs.length + cs.size ≤ maxLen) (hlen : (xs.length + cs.size) * bytes ≤ 140737488355328) (w0 : World) (hb0 : w0.heap.size ≤ base) (hbase : base ≤ wr.heap.size)
    (g : Nat) (a : Option Addr) (len cap : Nat) (hgb : g < base) (hG : w0.grownBy wr (some g)) (hC : Cur wr g a len cap)
    (h : ∀ v' w', w'.ownsRow base e 1 v' (xs ++ cs.toList).length (xs ++ cs.toList) → Cur w' g a len cap → w0.grownBy w' (some g) → wpList P ops Q rest (ac.put o.dst v') w') :
    wpList P ops Q (o :: rest) ac (wr.alloc (.cells cs e)) := by
  subst hm
  refine wpList_append_own (wr.alloc (.cells cs e)) hgd s x t ho base e i z 1 bytes ht hi hz hsize hby hz1 (by decide) v xs.length xs hs (hown.alloc _) ⟨wr.heap.size, 0, none⟩ cs.size c cs.toList hx (by simp) ?_ h1 h63 hlen (by simp; omega) ?_
  · intro j u hj
    have hadd : (⟨wr.heap.size, 0, none⟩ : Addr).add j = ⟨wr.heap.size, j, none⟩ := by unfold Addr.add; split <;> simp_all
    rw [hadd, World.cell?_alloc_mark wr cs e (0, 0) j, ← hj]
    simp
  · intro v' w' ho' hg _
    have hr : ∀ k, v.ownBlock = some k → base ≤ k := fun k hk => (hown.lt k hk).1
    refine h v' w' (by simpa using ho') ?_ ?_
    · exact (hC.grown (World.grownBy_alloc wr _ none) (by simp)).grown hg (fun e => by have := hr g e; omega)
    · exact grown_own (grown_own hG (World.grownBy_alloc wr _ none) (by simp)) hg (fun k hk => Nat.le_trans hb0 (hr k hk))
end Go.Proofs.YtmofjlonmggpmaaTw

/-
  DrawPlaces: twelve numbers in 0 .. 9999.
-/
namespace Go.Proofs.YtmofjlonmggpmaaTw
open Go.RowKit


/-- A number as a value. -/
def Nv (n : Nat) : Value := .int .i64 (n : Int)
theorem all_snoc {p : List Nat} {x n : Nat} (h : ∀ y ∈ p, y < n) (hx : x < n) : ∀ y ∈ p ++ [x], y < n := by
  intro y hy
  rcases List.mem_append.1 hy with h' | h'
  · exact h y h'
  · simp at h'; omega
theorem num_row {w : World} {base x : Nat} {v : Value} {p : List Nat} (h : w.ownsRow base 3 1 v (p.map Nv ++ #[Value.int .i64 (x : Int)].toList).length (p.map Nv ++ #[Value.int .i64 (x : Int)].toList)) : w.ownsRow base 3 1 v (p ++ [x]).length ((p ++ [x]).map Nv) := by
  have e : p.map Nv ++ #[Value.int .i64 (x : Int)].toList = (p ++ [x]).map Nv := by simp [Nv]
  rw [e, List.length_map] at h
  exact h

theorem big_no (a : Option Addr) (len cap : Nat) (hl : len ≤ 1048576) (w : World) :
    Calls Tryt.prog 12 #[.slice a len cap] w fun e w' => e = .returned (.bool false) ∧ w' = w := by
  have hd : decide ((1048576 : Int) < (len : Int)) = false := by simp; omega
  go_enter Tryt.func12, Try.ntmps12
  go_wp2
  go_ret
  exact ⟨rfl, rfl⟩
theorem big_yes (a : Option Addr) (len cap : Nat) (hl : ¬ len ≤ 1048576) (w : World) :
    Calls Tryt.prog 12 #[.slice a len cap] w fun e w' => e = .returned (.bool true) ∧ w' = w := by
  have hd : decide ((1048576 : Int) < (len : Int)) = true := by simp; omega
  go_enter Tryt.func12, Try.ntmps12
  go_wp2
  go_ret
  exact ⟨rfl, rfl⟩

set_option maxHeartbeats 1000000 in
set_option maxRecDepth 100000 in
theorem drawPlaces_any (a : Option Addr) (len cap : Nat) (w : World) (hl : len ≤ 1048576) (hin : InB w.heap.size w a len) :
    Calls Tryt.prog 14 #[.slice a len cap] w fun e w' => ∃ (v : Value) (p : List Nat), p.length = 12 ∧ (∀ x ∈ p, x < 10000) ∧ e = .returned v ∧ w'.ownsRow w.heap.size 3 1 v p.length (p.map Nv) ∧ Below w.heap.size w w' := by
  obtain ⟨i0, hi, hz0, hz1, hz2⟩ := info_parts Tryt.info3
  have HI := hide hin
  clear hin
  go_enter Tryt.func14, Try.ntmps14
  go_wp2_with fail
  refine (l01New_any a len cap _ hl (unhide HI)).mono ?_
  rintro e w1 ⟨g, hgB, rfl, hc1, hb1⟩
  have C1 := hide hc1
  have B1 := hide hb1
  clear hc1 hb1
  go_wp2_with fail
  refine (l01Byte_any g w.heap.size a len cap _ hl hgB ((unhide HI).below (unhide B1)) (unhide C1)).mono ?_
  rintro e w2 ⟨x0, _, rfl, hc2, hg2⟩
  have B2 := hide ((unhide B1).grown hg2 (unhide B1).size (fun k hk => by cases hk; exact hgB))
  have C2 := hide hc2
  clear hc2 hg2
  go_wp2
  go_loopw [4, 5] (fun v i wr => ∃ (k : Nat) (p : List Nat), k ≤ 12 ∧ i = .int .i64 k ∧ p.length = k ∧ (∀ x ∈ p, x < 10000) ∧ wr.ownsRow w2.heap.size 3 1 v p.length (p.map Nv) ∧ Cur wr g a len cap ∧ w2.grownBy wr (some g)) (fun _ i _ => 12 - (intOf i).toNat)
  case atStart => exact ⟨0, [], by omega, rfl, rfl, by simp, World.ownsRow_lit w2 #[] 0 (Nat.le_refl _) (by decide) rfl, (unhide C2).grown (World.grownBy_alloc w2 _ none) (by simp), World.grownBy_alloc w2 _ _⟩
  case round =>
    obtain ⟨k, p, hk, rfl, hlk, hpb, hown, hc, hg⟩ := hrel
    have hgl := (unhide C2).lt
    have C := hide hc
    have G := hide hg
    have O := hide hown
    have LK := hide hlk
    have PB := hide hpb
    clear hc hg hlk hown hpb
    by_cases hlt : k < 12
    · go_wp2_with (first | (go_at_call 33; go_must (refine (l01Below_any g w.heap.size a len cap 10000 (by omega) (by omega) _ hl hgB (Nat.le_trans (unhide B2).size (unhide G).size) (((unhide HI).below (unhide B2)).grown (unhide G) hgB (unhide B2).size) (unhide C)).mono ?_); rintro e w3 ⟨x, hx, rfl, hc1, hg1⟩; have C3 := hide hc1; have G3 := hide (grown_trans (unhide G) hg1); have O3 := hide (own_grown (unhide O) hg1 hgl); clear hc1 hg1) | (at_builtin; go_must (refine wpList_append_cur w3 rfl _ _ 34 3 rfl w2.heap.size i0 (.int .i64 0) 8 Tryt.underlying34 hi hz0 hz1 hz2 rfl _ (p.map Nv) (by rfl) (by rw [List.length_map]; exact unhide O3) _ (by intro u hu; simp at hu; subst hu; rfl) 1 1 rfl (by rfl) (by have := unhide LK; unfold maxLen; simp; omega) (by have := unhide LK; simp; omega) w2 (Nat.le_refl _) (unhide G3).size g a len cap hgl (unhide G3) (unhide C3) ?_); intro v' w4 hown2 hc2 hg2))
      go_roundw
      case rel => exact ⟨k + 1, p ++ [x], by omega, by go_num, by have := unhide LK; simp; omega, all_snoc (unhide PB) hx, num_row hown2, hc2, hg2⟩
      case measure => simp [intOf]; omega
    · have hke : k = 12 := by omega
      have KE := hide hke
      have hlt' : ¬ (k : Int) < 12 := by omega
      clear hke
      go_wp2
      go_ret
      exact ⟨_, p, (unhide LK).trans (unhide KE), unhide PB, rfl, own_low (unhide O) (unhide B2).size, (unhide B2).grown (unhide G) (unhide B2).size (fun k hk => by cases hk; exact hgB)⟩
end Go.Proofs.YtmofjlonmggpmaaTw

/-
  FnQuotients: drawn quotients and roots.
-/
namespace Go.Proofs.YtmofjlonmggpmaaTw
open Go.RowKit

/-- A place of the drawn ones. -/
theorem place_at {w : World} {base : Nat} {p : List Nat} {gp cap : Nat} (h : w.ownsRow base 3 1 (.slice (some ⟨gp, 0, none⟩) p.length cap) p.length (p.map Nv)) (hp : ∀ x ∈ p, x < 10000) (i : Nat) (hi : i < p.length) :
    ∃ x : Int, (0 ≤ x ∧ x < 10000) ∧ w.cell? ⟨gp, i, none⟩ = some (.int .i64 x) := by
  have hm := List.getElem_mem hi
  have := hp _ hm
  refine ⟨((p[i] : Nat) : Int), ⟨by omega, by omega⟩, ?_⟩
  rw [h.cellAt i (by omega), List.getElem?_map, List.getElem?_eq_getElem hi]
  rfl

end Go.Proofs.YtmofjlonmggpmaaTw

/-
  Drawn points and mats: what a drawing leaves of memory, carried along as one fact.
-/
namespace Go.Proofs.YtmofjlonmggpmaaTw
open Go.RowKit

/-- A drawing is under way: the world 'u' has come of 'w', the code's cursor lies at block g. -/
structure DS (w u : World) (g B : Nat) (a : Option Addr) (len cap : Nat) : Prop where
  cur : Cur u g a len cap
  gb : w.grownBy u (some g)
  inb : InB B u a len
  le : B ≤ u.heap.size
  lg : B ≤ g
  lt : g < w.heap.size

theorem DS.start {w : World} {g B : Nat} {a : Option Addr} {len cap : Nat} (hc : Cur w g a len cap) (hi : InB B w a len) (hB : B ≤ w.heap.size) (hg : B ≤ g) : DS w w g B a len cap := ⟨hc, World.grownBy.refl _ _, hi, hB, hg, hc.lt⟩

theorem DS.next {w u v : World} {g B : Nat} {a : Option Addr} {len cap : Nat} (h : DS w u g B a len cap) (hc : Cur v g a len cap) (hg : u.grownBy v (some g)) : DS w v g B a len cap :=
  ⟨hc, grown_trans h.gb hg, h.inb.grown hg h.lg h.le, Nat.le_trans h.le hg.size, h.lg, h.lt⟩

theorem DS.alloc {w u : World} {g B : Nat} {a : Option Addr} {len cap : Nat} (h : DS w u g B a len cap) (o : Obj) : DS w (u.alloc o) g B a len cap :=
  h.next (h.cur.grown (World.grownBy_alloc u o none) (by simp)) (World.grownBy_alloc u o (some g))

theorem DS.size {w u : World} {g B : Nat} {a : Option Addr} {len cap : Nat} (h : DS w u g B a len cap) : w.heap.size ≤ u.heap.size := h.gb.size

theorem DS.heap {w u v : World} {g B b : Nat} {a : Option Addr} {len cap : Nat} {o : Obj} (h : DS w u g B a len cap) (hg : u.grownBy v (some g)) (hb : w.heap.size ≤ b) (ho : u.heap[b]? = some o) : v.heap[b]? = some o :=
  (hg.block b (heap_lt ho) (fun e => by have := h.lt; cases e; omega)).trans ho

theorem DS.put {w u : World} {g B b : Nat} {a : Option Addr} {len cap : Nat} (h : DS w u g B a len cap) (j : Nat) (v : Value) (hb : w.heap.size ≤ b) : DS w (u.setCell ⟨b, j, none⟩ v) g B a len cap := by
  have hgr : u.grownBy (u.setCell ⟨b, j, none⟩ v) (some b) := ⟨rfl, rfl, rfl, by simp, fun k _ hk => by simp [World.setCell, Array.getElem?_modify]; intro e; exact absurd (by rw [e]) hk⟩
  have hne : b ≠ g := by have := h.lt; omega
  refine ⟨h.cur.grown hgr (fun e => hne (by cases e; rfl)), ⟨h.gb.1, h.gb.2, h.gb.3, by simpa using h.size, fun k hk hr => ?_⟩, h.inb.grown hgr (Nat.le_trans h.lg (by have := h.lt; omega)) h.le, by simpa using h.le, h.lg, h.lt⟩
  have e1 := hgr.block k (Nat.lt_of_lt_of_le hk h.size) (fun e => by cases e; omega)
  exact e1.trans (h.gb.block k hk hr)

theorem draw_any {w u : World} {g B : Nat} {a : Option Addr} {len cap : Nat} (h : DS w u g B a len cap) (hl : len ≤ 1048576) (n : Nat) (hn : 0 < n) (hn2 : n ≤ 4294967296) :
    Calls Tryt.prog 33 #[.pointer (some ⟨g, 0, none⟩), .int .i64 (n : Int)] u fun e w' => ∃ x : Nat, x < n ∧ e = .returned (.int .i64 (x : Int)) ∧ DS w w' g B a len cap ∧ u.grownBy w' (some g) :=
  (l01Below_any g B a len cap n hn hn2 u hl h.lg h.le h.inb h.cur).mono fun _ _ ⟨x, hx, he, hc, hg⟩ => ⟨x, hx, he, h.next hc hg, hg⟩
theorem DS.again {w u : World} {g B : Nat} {a : Option Addr} {len cap : Nat} (h : DS w u g B a len cap) : DS u u g B a len cap := DS.start h.cur h.inb h.le h.lg
theorem DS.below {w u W : World} {g B : Nat} {a : Option Addr} {len cap : Nat} (h : DS w u g B a len cap) (hb : Below B W w) (hw : B ≤ w.heap.size) : Below B W u := hb.grown h.gb hw (fun k hk => by cases hk; exact h.lg)
end Go.Proofs.YtmofjlonmggpmaaTw

/-
  The walk of drawn points.
-/
namespace Go.Proofs.YtmofjlonmggpmaaTw
open Go.RowKit

set_option maxHeartbeats 1000000 in
set_option maxRecDepth 100000 in
theorem l04Point_any (g B : Nat) (a : Option Addr) (len cap : Nat) (w : World) (hl : len ≤ 1048576) (h : DS w w g B a len cap) :
    Calls Tryt.prog 34 #[.pointer (some ⟨g, 0, none⟩)] w fun e w' => ∃ x y : Int, (-300 ≤ x ∧ x ≤ 3299) ∧ (-300 ≤ y ∧ y ≤ 3299) ∧ e = .returned (.agg #[.int .i64 x, .int .i64 y]) ∧ DS w w' g B a len cap := by
  have D0 := hide h
  clear h
  go_enter Tryt.func34, Try.ntmps34
  go_wp2_with fail
  have D1 := hide ((unhide D0).alloc (.cells #[.int .i64 0, .int .i64 0] 38))
  refine (draw_any (unhide D1) hl 3600 (by omega) (by omega)).mono ?_
  rintro e w1 ⟨x, hx, rfl, d2, g2⟩
  have R1 := hide ((unhide D1).heap g2 (Nat.le_refl _) (al1_0 _ _))
  have D2 := hide d2
  clear d2 g2
  go_wp2_with fail
  refine (draw_any (unhide D2) hl 3600 (by omega) (by omega)).mono ?_
  rintro e w2 ⟨y, hy, rfl, d3, g3⟩
  have hr := (unhide D2).heap g3 (Nat.le_refl _) (unhide R1)
  obtain ⟨r0, r1⟩ := row2 hr
  obtain ⟨f0, f1⟩ := free2 hr
  have D3 := hide d3
  clear d3 g3 hr
  go_wp2_with fail
  refine bodyPost_ret (v := .agg #[.int .i64 ((x : Int) - 300), .int .i64 ((y : Int) - 300)]) (by simp [results, Try.results34, go_sem, r0, r1]) rfl ⟨_, _, ?_, ?_, rfl, ?_⟩
  · omega
  · omega
  · exact ((unhide D3).put 0 _ (Nat.le_refl _)).put 1 _ (Nat.le_refl _)
end Go.Proofs.YtmofjlonmggpmaaTw

/-
  Rows of drawn points: one more is laid behind them, beside the cursor.
-/
namespace Go.Proofs.YtmofjlonmggpmaaTw
open Go.RowKit

theorem wpList_append_curP {P : Program} {ops : Array Oper} {rest : List Oper} {o : Oper} {ac : Act} {Q : Exit → Act → World → Prop} (wr : World) (hgd : o.guard = none) (s x : Operand) (t e : TypeId)
    (ho : o.op = .call { callee := .builtin .append, args := #[s, x], argTypes := #[t, t] })
    (base : Nat) (i : TypeInfo) (z : Value) (bytes : Nat) (ht : P.underlying t = some (.slice e)) (hi : P.info? e = some i) (hz : i.zero = some z) (hsize : i.size = 2) (hby : i.bytes = bytes) (hz1 : z.cells.size = 2)
    (v : Value) (l : List (Int × Int)) (hs : ac.eval s = v) (hown : wr.ownsRow base e 2 v l.length (ptsV l))
    (p q : Int) (c : Nat) (hx : ac.eval x = .slice (some ⟨wr.heap.size, 0, none⟩) 1 c)
    (h63 : l.length + 1 ≤ maxLen) (hlen : (l.length + 1) * bytes ≤ 140737488355328) (w0 : World) (hb0 : w0.heap.size ≤ base) (hbase : base ≤ wr.heap.size)
    (g : Nat) (a : Option Addr) (len cap : Nat) (hgb : g < base) (hG : w0.grownBy wr (some g)) (hC : Cur wr g a len cap)
    (h : ∀ v' w', w'.ownsRow base e 2 v' (l ++ [(p, q)]).length (ptsV (l ++ [(p, q)])) → Cur w' g a len cap → w0.grownBy w' (some g) → wpList P ops Q rest (ac.put o.dst v') w') :
    wpList P ops Q (o :: rest) ac (wr.alloc (.cells #[.int .i64 p, .int .i64 q] e)) := by
  refine wpList_append_own (wr.alloc (.cells #[.int .i64 p, .int .i64 q] e)) hgd s x t ho base e i z 2 bytes ht hi hz hsize hby hz1 (by decide) v l.length (ptsV l) hs (hown.alloc _) ⟨wr.heap.size, 0, none⟩ 1 c (ptV (p, q)) hx (by simp [ptV]) ?_ (by intro u hu; simp [ptV] at hu; rcases hu with rfl | rfl <;> rfl) h63 hlen (by simp; omega) ?_
  · intro j u hj
    have hadd : (⟨wr.heap.size, 0, none⟩ : Addr).add j = ⟨wr.heap.size, j, none⟩ := by unfold Addr.add; split <;> simp_all
    rw [hadd, World.cell?_alloc_mark wr #[.int .i64 p, .int .i64 q] e (0, 0) j, ← hj]
    simp [ptV]
  · intro v' w' ho' hg _
    have hr : ∀ k, v.ownBlock = some k → base ≤ k := fun k hk => (hown.lt k hk).1
    refine h v' w' (by rw [ptsV_app, List.length_append]; exact ho') ?_ ?_
    · exact (hC.grown (World.grownBy_alloc wr _ none) (by simp)).grown hg (fun e => by have := hr g e; omega)
    · exact grown_own (grown_own hG (World.grownBy_alloc wr _ none) (by simp)) hg (fun k hk => Nat.le_trans hb0 (hr k hk))
end Go.Proofs.YtmofjlonmggpmaaTw

/-
  The walk of DrawPoints: a row of four to eight drawn points.
-/
namespace Go.Proofs.YtmofjlonmggpmaaTw
open Go.RowKit

def SmallPt (p : Int × Int) : Prop := (-300 ≤ p.1 ∧ p.1 ≤ 3299) ∧ (-300 ≤ p.2 ∧ p.2 ≤ 3299)
theorem small_snoc {l : List (Int × Int)} {p : Int × Int} (h : ∀ q ∈ l, SmallPt q) (hp : SmallPt p) : ∀ q ∈ l ++ [p], SmallPt q := by
  intro q hq; rcases List.mem_append.1 hq with h1 | h1
  · exact h q h1
  · simp at h1; subst h1; exact hp

set_option maxHeartbeats 2000000 in
set_option maxRecDepth 100000 in
theorem drawPoints_any (a : Option Addr) (len cap : Nat) (w : World) (hl : len ≤ 1048576) (hin : InB w.heap.size w a len) :
    Calls Tryt.prog 13 #[.slice a len cap] w fun e w' => ∃ (v : Value) (l : List (Int × Int)), 4 ≤ l.length ∧ l.length ≤ 8 ∧ (∀ q ∈ l, SmallPt q) ∧ e = .returned v ∧ w'.ownsRow w.heap.size 38 2 v l.length (ptsV l) ∧ Below w.heap.size w w' := by
  obtain ⟨i0, hi, hz0, hz1, hz2⟩ := info_parts infoPoint
  have HI := hide hin
  clear hin
  go_enter Tryt.func13, Try.ntmps13
  go_wp2_with fail
  refine (l01New_any a len cap _ hl (unhide HI)).mono ?_
  rintro e w1 ⟨g, hg, rfl, hc, hb1⟩
  have D1 := hide (DS.start hc ((unhide HI).below hb1) hb1.size hg)
  have B1 := hide hb1
  clear hc hb1
  go_wp2
  go_loopw [4, 5] (fun v i u => ∃ (k : Nat) (l : List (Int × Int)), k ≤ 8 ∧ i = .int .i64 k ∧ l.length = k ∧ (∀ q ∈ l, SmallPt q) ∧ u.ownsRow w1.heap.size 38 2 v l.length (ptsV l) ∧ DS w1 u g w.heap.size a len cap) (fun _ i _ => 8 - (intOf i).toNat)
  case atStart => exact ⟨0, [], by omega, rfl, rfl, by simp, World.ownsRow_lit w1 #[] 0 (Nat.le_refl _) (by decide) rfl, (unhide D1).alloc _⟩
  case round =>
    obtain ⟨k, l, hk, rfl, hlk, hsm, hown, hd⟩ := hrel
    have hgl := (unhide D1).lt
    have D := hide hd
    have O := hide hown
    have LK := hide hlk
    have SM := hide hsm
    clear hd hown hlk hsm
    go_wp2_with fail
    refine (draw_any (unhide D) hl 5 (by omega) (by omega)).mono ?_
    rintro e w2 ⟨x, hx, rfl, d2, g2⟩
    replace O := hide (own_grown (unhide O) g2 hgl)
    have D2 := hide d2
    clear d2 g2 D
    have vv : IntKind.i64.wrap (4 + (x : Int)) = 4 + (x : Int) := IntWalk.i64_in _ (by omega)
    by_cases hlt : (k : Int) < 4 + (x : Int)
    · go_wp2_with fail
      refine (l04Point_any g _ a len cap _ hl (unhide D2).again).mono ?_
      rintro e w3 ⟨px, py, hpx, hpy, rfl, d3⟩
      replace O := hide (own_grown (unhide O) d3.gb hgl)
      have D3 := hide ((unhide D2).next d3.cur d3.gb)
      clear d3 D2
      have SP := hide (show SmallPt (px, py) from ⟨hpx, hpy⟩)
      clear hpx hpy
      go_wp2_with (first | (at_builtin; go_must (refine wpList_append_curP w3 rfl _ _ 32 38 rfl w1.heap.size i0 (.agg #[.int .i64 0, .int .i64 0]) 16 Tryt.underlying32 hi hz0 hz1 hz2 rfl _ l (by rfl) (unhide O) px py 1 rfl (by have := unhide LK; unfold maxLen; omega) (by have := unhide LK; omega) w1 (Nat.le_refl _) (unhide D3).size g a len cap hgl (unhide D3).gb (unhide D3).cur ?_); intro v' w4 hown2 hc2 hg2))
      go_roundw
      case rel => exact ⟨k + 1, l ++ [(px, py)], by omega, by go_num, by have := unhide LK; simp; omega, small_snoc (unhide SM) (unhide SP), hown2, (unhide D1).next hc2 hg2⟩
      case measure => simp [intOf]; omega
    · go_wp2
      go_ret
      exact ⟨_, l, by have := unhide LK; omega, by have := unhide LK; omega, unhide SM, rfl, own_low (unhide O) (unhide B1).size, (unhide D2).below (unhide B1) (unhide B1).size⟩
end Go.Proofs.YtmofjlonmggpmaaTw

/-
  The side of a line is turned by a quarter from it, but for half a unit.
-/
namespace Go.Proofs.YtmofjlonmggpmaaTw
open Go.RowKit

theorem smallP_ok {x y : Int} (h : SmallPt (x, y)) : pointOkB x y = true := by
  obtain ⟨⟨h1, h2⟩, h3, h4⟩ := h
  simp only [pointOkB, inB, Bool.and_eq_true, decide_eq_true_eq]
  dsimp only at h1 h2 h3 h4
  omega
end Go.Proofs.YtmofjlonmggpmaaTw

/-
  samePoints and sameLines of the laws.
-/
namespace Go.Proofs.YtmofjlonmggpmaaTw
open Go.RowKit
set_option linter.unusedVariables false

attribute [local go_sem ↓] eqlPoint in
set_option maxHeartbeats 4000000 in
set_option maxRecDepth 100000 in
theorem samePoints_any (f : Nat → Int × Int) (ao bo : Option Addr) (n cap cap' : Nat) (hn : n ≤ 1048576) (w : World) (HA : ∀ i, i < n → PtArg w ao i (f i)) (HB : ∀ i, i < n → PtArg w bo i (f i)) :
    Calls Tryt.prog 37 #[.slice ao n cap, .slice bo n cap'] w fun r w' => r = .returned (.bool true) ∧ Below w.heap.size w w' := by
  replace HA := hide HA
  replace HB := hide HB
  go_enter Tryt.func37, Try.ntmps37
  go_wp2_with fail
  go_loopw [5] (fun i u => ∃ k : Nat, k ≤ n ∧ i = .int .i64 k ∧ Below w.heap.size w u) (fun i _ => n - (intOf i).toNat)
  case atStart => exact ⟨0, Nat.zero_le _, rfl, Below.refl _ _⟩
  case round =>
    obtain ⟨k, hk, rfl, hb⟩ := hrel
    by_cases hlt : k < n
    · have HP := (unhide HA k hlt).next hb
      have HQ := (unhide HB k hlt).next hb
      generalize f k = z at HP HQ
      obtain ⟨x, y⟩ := z
      obtain ⟨s, o, rfl, g0, g1⟩ := HP
      obtain ⟨s', o', rfl, h0, h1⟩ := HQ
      dsimp only at g0 g1 h0 h1
      replace hb := hide hb
      go_upto_region 6 with fail
      obtain ⟨I, F, hI, F1, F2⟩ := kept_worlds wr
      have a0 : ∀ i, (F i).cell? ⟨s, o + k * 2, none⟩ = some (.int .i64 x) := fun i => kc (F2 i) g0
      have a1 : ∀ i, (F i).cell? ⟨s, o + k * 2 + 1, none⟩ = some (.int .i64 y) := fun i => kc (F2 i) g1
      have b0 : ∀ i, (F i).cell? ⟨s', o' + k * 2, none⟩ = some (.int .i64 x) := fun i => kc (F2 i) h0
      have b1 : ∀ i, (F i).cell? ⟨s', o' + k * 2 + 1, none⟩ = some (.int .i64 y) := fun i => kc (F2 i) h1
      clear g0 g1 h0 h1
      replace F1 := hide F1
      replace F2 := hide F2
      refine wp_region_quiet_in (unhide F1) (by kernel_rfl) (by kernel_rfl) ?_
      repeat (go_big_quiet_step (fail))
      refine wpQuiet_nil ?_
      rintro _ ⟨i, rfl⟩
      have hF := unhide F2 i
      clear F1 a0 a1 b0 b1
      go_wp2_with fail
      go_roundw
      case rel => exact ⟨k + 1, by omega, by go_num, below_two (unhide hb) hF⟩
      case measure => simp [intOf]; omega
    · have hke : k = n := by omega
      subst hke
      replace hb := hide hb
      go_wp2_with fail
      go_ret
      exact ⟨rfl, unhide hb⟩

set_option maxHeartbeats 4000000 in
set_option maxRecDepth 100000 in
theorem sameLines_any (L : List (List Pt)) (a b : Option Addr) (n c d base base' : Nat) (hn : n = L.length) (hL : L.length ≤ 4300000000000) (hl : ∀ l ∈ L, l.length ≤ 400000) (w : World) (h : LinesV w base (.slice a n c) L) (h' : LinesV w base' (.slice b n d) L) :
    Calls Tryt.prog 16 #[.slice a n c, .slice b n d] w fun r w' => r = .returned (.bool true) ∧ Below w.heap.size w w' := by
  obtain ⟨vs, o1, k1⟩ := h
  obtain ⟨vs', o2, k2⟩ := h'
  rw [← hn] at o1 o2
  replace o1 := hide o1
  replace o2 := hide o2
  replace k1 := hide k1
  replace k2 := hide k2
  replace hl := hide hl
  replace hn := hide hn
  go_enter Tryt.func16, Try.ntmps16
  go_wp2_with fail
  go_loopw [5] (fun i u => ∃ k : Nat, k ≤ n ∧ i = .int .i64 k ∧ Below w.heap.size w u) (fun i _ => n - (intOf i).toNat)
  case atStart => exact ⟨0, Nat.zero_le _, rfl, Below.refl _ _⟩
  case round =>
    obtain ⟨k, hk, rfl, hb⟩ := hrel
    by_cases hlt : k < n
    · have hkL : k < L.length := by rw [← unhide hn]; exact hlt
      obtain ⟨g, _, e1, _, _⟩ := own_at (unhide o1) (by omega)
      cases e1
      obtain ⟨g', _, e2, _, _⟩ := own_at (unhide o2) (by omega)
      cases e2
      obtain ⟨x, cx, _, g0, ox⟩ := line_at (unhide o1) (unhide k1) (unhide hn) hkL
      obtain ⟨y, cy, _, g1, oy⟩ := line_at (unhide o2) (unhide k2) (unhide hn) hkL
      have hlk := unhide hl _ (List.getElem_mem hkL)
      have E := hide (fun u (hu : Below w.heap.size w u) => samePoints_any (listP L[k]) x y L[k].length cx cy (by omega) u (fun i hi => (own_pxa ox (px_list _) i hi).next hu) (fun i hi => (own_pxa oy (px_list _) i hi).next hu))
      generalize L[k].length = m at g0 g1 E
      have HB := hide hb
      have k0 : ∀ u, Below wr.heap.size wr u → (u.cell? ⟨g, k, none⟩ = some (.slice x m cx) ∧ u.cell? ⟨g', k, none⟩ = some (.slice y m cy) ∧ Below wr.heap.size wr u) := fun u h => ⟨kc h (kc hb g0), kc h (kc hb g1), h⟩
      have kS : ∀ u, (u.cell? ⟨g, k, none⟩ = some (.slice x m cx) ∧ u.cell? ⟨g', k, none⟩ = some (.slice y m cy) ∧ Below wr.heap.size wr u) → Below wr.heap.size wr u := fun u h => h.2.2
      clear hb ox oy hlk g0 g1
      replace k0 := hide k0
      go_upto_region 6 with fail
      go_region_held3 (fun u => u.cell? ⟨g, k, none⟩ = some (.slice x m cx) ∧ u.cell? ⟨g', k, none⟩ = some (.slice y m cy) ∧ Below wr.heap.size wr u) ((with_reducible refine unhide k0 _ ?_; first | with_reducible exact (Below.refl _ _).drew | with_reducible assumption)) (first | (go_at_call 37; go_fit (unhide E _ (below_two (unhide HB) (kS _ (by with_reducible assumption)))); rintro r w4 ⟨rfl, hb4⟩; have hW4 := below_after hb4 (kS _ (by with_reducible assumption)) (Nat.le_refl _)))
      all_goals
        have hW9 := kS _ (by with_reducible assumption)
        go_wp2_with fail
        go_roundw
        case rel => exact ⟨k + 1, by omega, by go_num, below_two (unhide HB) hW9⟩
        case measure => simp [intOf]; omega
    · have hke : k = n := by omega
      subst hke
      replace hb := hide hb
      go_wp2_with fail
      go_ret
      exact ⟨rfl, unhide hb⟩

end Go.Proofs.YtmofjlonmggpmaaTw

/-
  The law on strokes of a drawn line, over the twin.
-/
namespace Go.Proofs.YtmofjlonmggpmaaTw
open Go.RowKit
set_option linter.unusedVariables false

theorem lenC_pos (a b : Pt) : lenC a b = 0 ∨ 1 ≤ lenC a b := by
  by_cases h : lenC a b = 0
  · exact .inl h
  · exact .inr (len_right (lenC_is a b) h).2.2.1
theorem quadW_four {W : Int} (hW : inB W 1 2048 = true) (a b : Pt) : (quadW W a b).length = if 0 < lenC a b then 4 else 0 := by
  unfold quadW quadC
  rcases lenC_pos a b with h | h
  · rw [if_pos (.inl h), if_neg (by omega)]; rfl
  · rw [if_neg (by rintro (e | e); omega; rw [hW] at e; cases e), if_pos (by omega)]; rfl
/-- How many stretches of some length there are. -/
noncomputable def cntL (f : Nat → Pt) : Nat → Nat
  | 0 => 0
  | m + 1 => cntL f m + (if 0 < m ∧ 0 < lenC (f (m - 1)) (f m) then 1 else 0)
theorem cntL_le (f : Nat → Pt) : ∀ m, cntL f m ≤ m
  | 0 => Nat.le_refl _
  | m + 1 => by
    have := cntL_le f m
    unfold cntL
    split <;> omega
theorem strokeL_cnt {W : Int} (hW : inB W 1 2048 = true) (f : Nat → Pt) (n : Nat) : ∀ m, m ≤ n → (strokeL W f n m).length = cntL f m + ((if m < n then m else n - 1) - 1)
  | 0, _ => by simp only [strokeL, cntL, List.length_nil]; split <;> omega
  | m + 1, hm => by
    have ih := strokeL_cnt hW f n m (by omega)
    have hq := quadW_four hW (f (m - 1)) (f m)
    simp only [strokeL, List.length_append, ih, cntL]
    have e1 : (stepQ W f m).length = if 0 < m ∧ 0 < lenC (f (m - 1)) (f m) then 1 else 0 := by
      unfold stepQ
      rw [hq]
      by_cases h1 : 0 < m
      · by_cases h2 : 0 < lenC (f (m - 1)) (f m)
        · simp [h1, h2]
        · simp [h1, h2]
      · simp [h1]
    have e2 : (stepJ W f n m).length = if 0 < m ∧ m + 1 < n then 1 else 0 := by
      unfold stepJ
      split <;> simp
    rw [e1, e2]
    have e3 : m < n := by omega
    rw [if_pos e3]
    by_cases h1 : m + 1 < n
    · rw [if_pos h1]
      by_cases h0 : 0 < m
      · rw [if_pos (show 0 < m ∧ m + 1 < n from ⟨h0, h1⟩)]; omega
      · rw [if_neg (show ¬ (0 < m ∧ m + 1 < n) from fun e => h0 e.1)]; omega
    · rw [if_neg h1, if_neg (show ¬ (0 < m ∧ m + 1 < n) from fun e => h1 e.2)]; omega
theorem stroke_four (W : Int) (N : Nat) (ln : Nat → Nat) (pf : Nat → Nat → Pt) : ∀ l ∈ strokeA W N ln pf, l.length = 4 := by
  unfold strokeA
  split
  · rename_i hin
    rw [strokeN_edges]
    intro l hl
    obtain ⟨e, _, h⟩ := List.mem_flatMap.1 hl
    unfold stepE at h
    rcases List.mem_append.1 h with h | h
    · split at h
      · rename_i h0
        rw [List.mem_singleton.1 h]
        rw [quadW_four hin.1] at h0 ⊢
        split at h0
        · rename_i h1; rw [if_pos h1]
        · omega
      · cases h
    · split at h
      · rw [List.mem_singleton.1 h]; rfl
      · cases h
  · intro l h; cases h
/-- The stroke of one right line. -/
theorem stroke_one {W : Int} (hW : inB W 1 2048 = true) (f : Nat → Pt) (n : Nat) (hf : ∀ i, i < n → pointOkB (f i).1 (f i).2 = true) : strokeA W 1 (fun _ => n) (fun _ => f) = strokeL W f n n := by
  unfold strokeA
  rw [if_pos ⟨hW, fun i _ j hj => hf j hj⟩]
  simp [strokeN]
theorem stroke_none (N : Nat) (ln : Nat → Nat) (pf : Nat → Nat → Pt) : strokeA 0 N ln pf = [] := if_neg (fun e => by have := inB_true.1 e.1; omega)
/-- The lengths of lists that are told. -/
theorem lines_len {u : World} {base : Nat} {a : Option Addr} {n c : Nat} {L : List (List Pt)} (h : LinesV u base (.slice a n c) L) (hn : n = L.length) {i : Nat} (hi : i < n) : ∃ s o x k, a = some ⟨s, o, none⟩ ∧ u.cell? ⟨s, o + i, none⟩ = some (.slice x (L[i]'(by omega)).length k) := by
  obtain ⟨vs, h1, h2⟩ := h
  have hv : i < vs.length := by rw [h2.len]; omega
  have ow := h2.own i _ _ (List.getElem?_eq_getElem hv) (List.getElem?_eq_getElem (show i < L.length by omega))
  obtain ⟨x, cx, ex⟩ := own_form ow
  rcases h1.2 with ⟨e, h0⟩ | ⟨g, cap, cur, e, _⟩
  · omega
  · injection e with e1 e2 e3
    subst e1 e3
    rw [hn] at h1
    have hc := h1.cellAt i (show i < L.length * 1 by omega)
    rw [List.getElem?_eq_getElem hv, ex] at hc
    exact ⟨g, 0, x, cx, rfl, by rw [Nat.zero_add]; exact hc⟩
theorem OfTy.next {w u : World} {a : Option Addr} {e : TypeId} (h : OfTy w a e) (hb : Below w.heap.size w u) : OfTy u a e := fun s o ha => let ⟨cs, f, h1⟩ := h s o ha; ⟨cs, f, row_next hb h1⟩
/-- A row of one line. -/
theorem one_line {w : World} {a : Option Addr} {n c : Nat} {f : Nat → Pt} (P : ∀ i, i < n → PtArg w a i (f i)) (T : OfTy w a 38) :
    (∀ i, i < 1 → LTy (w.alloc (.cells #[.slice a n c] 32)) (some ⟨w.heap.size, 0, none⟩) i n f) ∧ OfTy (w.alloc (.cells #[.slice a n c] 32)) (some ⟨w.heap.size, 0, none⟩) 32 := by
  have hb := al1_below w (.cells #[.slice a n c] 32)
  have hr := new_row w (.cells #[.slice a n c] 32)
  refine ⟨fun i hi => ⟨_, 0, a, c, rfl, ?_, fun j hj => (P j hj).next hb, T.next hb⟩, fun s o e => ?_⟩
  · obtain rfl : i = 0 := by omega
    exact cell_of_row _ _ _ _ _ _ hr
  · injection e with e
    injection e with e1 e2
    subst e1
    exact ⟨_, _, hr⟩
set_option maxHeartbeats 16000000 in
set_option maxRecDepth 100000 in
theorem fnStrokeLines_walk (a0 : Option Addr) (len0 cap0 : Nat) (z0 : List Int) (w : World) (w0 : IsRow .u8 w a0 len0 cap0 z0) :
    Calls Tryt.prog 4 #[.slice a0 len0 cap0] w fun e w' => e = .returned (.bool true) ∧ Below w.heap.size w w' := by
  by_cases hl : len0 ≤ 1048576
  · have HI := hide (InB.of_row w0)
    clear w0
    go_enter Tryt.func4, Try.ntmps4
    go_wp2_with fail
    refine (big_no a0 len0 cap0 hl _).mono ?_
    rintro r w1 ⟨rfl, hw1⟩
    replace hw1 := hw1.symm
    subst hw1
    go_wp2_with fail
    refine (drawPoints_any a0 len0 cap0 _ hl (unhide HI)).mono ?_
    rintro r w2 ⟨v, l, hl4, hl8, hsm, rfl, hown, hb2⟩
    have HOL := hide (show (∀ i, i < l.length → pointOkB ((fun i => l.getD i (0, 0)) i).1 ((fun i => l.getD i (0, 0)) i).2 = true) from fun i hi => by
      have := hsm _ (List.getElem_mem hi)
      try dsimp only
      rw [List.getD_eq_getElem?_getD, List.getElem?_eq_getElem hi]
      exact smallP_ok (x := l[i].1) (y := l[i].2) this)
    have HT := hide (show ∀ a c, v = .slice a l.length c → OfTy w2 a 38 from fun a c e => by
      rintro s' o' rfl
      rcases hown.2 with ⟨e2, _⟩ | ⟨g, cap, cur, e2, _, h3, _⟩
      · rw [e] at e2; cases e2
      · rw [e] at e2
        injection e2 with e2 _
        injection e2 with e2
        injection e2 with e2
        subst e2
        exact ⟨cur, _, h3⟩)
    obtain ⟨ao, cap, rfl, hcap, hpt⟩ := own_pts hown
    have HP := hide (show ∀ i, i < l.length → PtArg w2 ao i ((fun i => l.getD i (0, 0)) i) from fun i hi => by
      obtain ⟨s, e, g0, g1⟩ := hpt i hi
      try dsimp only
      rw [List.getD_eq_getElem?_getD, List.getElem?_eq_getElem hi]
      exact ⟨s, 0, e, by rw [Nat.zero_add]; exact g0, by rw [Nat.zero_add]; exact g1⟩)
    replace HT := hide (unhide HT _ _ rfl)
    clear hown hpt hsm hcap
    generalize (fun i => l.getD i (0, 0)) = f at HOL HP
    generalize l.length = n at hl4 hl8 HOL HT HP ⊢
    have HB := hide hb2
    have HI2 := hide ((unhide HI).next hb2)
    clear hb2 HI l
    go_wp2_with fail
    refine (drawPlaces_any a0 len0 cap0 _ hl (unhide HI2)).mono ?_
    rintro r w3 ⟨vp, p, hp12, hpb, rfl, hop, hb⟩
    obtain ⟨pp, pc, rfl, _, _, _, hpp⟩ := row_form hop
    obtain ⟨gp, rfl, hgp1, hgp2⟩ := hpp (by omega)
    obtain ⟨x, hx, c0⟩ := place_at hop hpb 0 (by omega)
    rw [hp12]
    clear hpb hop hpp HI2 hgp1 hgp2
    replace HB := hide (below_two (unhide HB) hb)
    replace HP := hide (fun i hi => (unhide HP i hi).next hb)
    replace HT := hide ((unhide HT).next hb)
    clear hb
    obtain ⟨hx0, hx1⟩ := hx
    go_upto_region 5 with fail
    clear c0
    have hw1 : 1 ≤ 1 + x % 900 ∧ 1 + x % 900 ≤ 900 := by omega
    obtain ⟨wd, hwd⟩ : ∃ wd, wd = 1 + x % 900 := ⟨_, rfl⟩
    try rw [← hwd]
    rw [← hwd] at hw1
    have hin : inB wd 1 2048 = true := inB_true.2 ⟨by omega, by omega⟩
    have hT1 : sumLn (fun _ => n) 1 ≤ 2900000000000 := by simp only [sumLn]; omega
    have EI := fun (b c : Nat) u h h' => twStroke_any 1 (fun _ => n) (fun _ => f) (by decide) (fun i _ => by omega) hT1 (some ⟨b, 0, none⟩) c wd u h h'
    have E0 := fun (b c : Nat) u h h' => twStroke_any 1 (fun _ => n) (fun _ => f) (by decide) (fun i _ => by omega) hT1 (some ⟨b, 0, none⟩) c 0 u h h'
    have ES := fun (b c : Nat) u h => specStrokeOf_any 1 (fun _ => n) (fun _ => f) (by decide) (fun i _ => by omega) hT1 (some ⟨b, 0, none⟩) c wd u h
    have hfour := stroke_four wd 1 (fun _ => n) (fun _ => f)
    have hcnt := strokeL_cnt hin f n n (Nat.le_refl _)
    rw [if_neg (show ¬ n < n by omega)] at hcnt
    rw [stroke_one hin f n (unhide HOL)] at EI ES hfour
    rw [stroke_none] at E0
    replace EI := hide EI
    replace E0 := hide E0
    replace ES := hide ES
    have hcl := cntL_le f n
    generalize strokeL wd f n n = L at EI ES hfour hcnt
    obtain ⟨N, hN⟩ : ∃ N, Hid (N = L.length) := ⟨_, rfl⟩
    have hNn : ((n : Int) - 2 + (cntL f n : Int)) = (N : Int) := by rw [unhide hN, hcnt]; omega
    have hNb : N ≤ 100 := by rw [unhide hN, hcnt]; omega
    have EQ := hide (fun (a b : Option Addr) (c d base base' : Nat) (w : World) h h' => sameLines_any L a b N c d base base' (unhide hN) (by rw [← unhide hN]; omega) (fun l hl => by rw [hfour l hl]; omega) w h h')
    have ELn := hide (fun (u : World) (a : Option Addr) (c base i : Nat) (h : LinesV u base (.slice a N c) L) (hi : i < N) => show ∃ s o x k, a = some ⟨s, o, none⟩ ∧ u.cell? ⟨s, o + i, none⟩ = some (.slice x 4 k) by
      obtain ⟨s, o, x, k, h1, h2⟩ := lines_len h (unhide hN) hi
      rw [hfour _ (List.getElem_mem _)] at h2
      exact ⟨s, o, x, k, h1, h2⟩)
    have EL := hide (fun (p q : Pt) u => specLengthOf_any p.1 p.2 q.1 q.2 (lenC p q) (lenC_is p q) u)
    clear hwd hx0 hx1 hp12 hfour hcnt HOL hT1 hin
    have O5 := hide (one_line (c := cap) (unhide HP) (unhide HT))
    go_wp2_with fail
    replace HB := hide (below_two (unhide HB) (al1_below w3 (.cells #[.slice ao n cap] 32)))
    replace HP := hide (fun i hi => (unhide HP i hi).next (al1_below w3 (.cells #[.slice ao n cap] 32)))
    replace HT := hide ((unhide HT).next (al1_below w3 (.cells #[.slice ao n cap] 32)))
    generalize w3.alloc (.cells #[.slice ao n cap] 32) = V at O5 HB HP HT ⊢
    generalize w3.heap.size = b3 at O5 ⊢
    go_fit (unhide EI _ _ _ (unhide O5).1 (unhide O5).2)
    rintro r w4 ⟨v, rfl, hl4', hb⟩
    obtain ⟨a4, c4, e1⟩ := hl4'.form
    rw [← unhide hN] at e1
    subst e1
    have L1 := hide hl4'
    replace HB := hide (below_two (unhide HB) hb)
    replace HP := hide (fun i hi => (unhide HP i hi).next hb)
    replace HT := hide ((unhide HT).next hb)
    clear hl4' hb O5 EI
    have hw6 : IntKind.i64.wrap ((n : Int) - 2) = (n : Int) - 2 := IntWalk.i64_in _ (by omega)
    go_wp2_with fail
    -- how many stretches have a length
    go_loopw [6, 7] (fun k i u => ∃ m : Nat, 1 ≤ m ∧ m ≤ n ∧ i = .int .i64 (m : Int) ∧ k = .int .i64 ((n : Int) - 2 + (cntL f m : Int)) ∧ Hid (Below w4.heap.size w4 u)) (fun _ i _ => n - (intOf i).toNat)
    case atStart => exact ⟨1, Nat.le_refl _, by omega, rfl, by rw [show cntL f 1 = 0 from rfl]; simp, Below.refl _ _⟩
    case round =>
      obtain ⟨m, hm1, hm2, rfl, rfl, hb⟩ := hrel
      by_cases hlm : m < n
      · have hlm' : (m : Int) < (n : Int) := by omega
        have HQ := (unhide HP m hlm).next (unhide hb)
        have HQ0 := (unhide HP (m - 1) (by omega)).next (unhide hb)
        have hcm := hide (show cntL f (m + 1) = cntL f m + (if 0 < m ∧ 0 < lenC (f (m - 1)) (f m) then 1 else 0) from rfl)
        have hcb := cntL_le f m
        have EL1 := hide (unhide EL (f (m - 1)) (f m))
        generalize lenC (f (m - 1)) (f m) = Q at hcm EL1
        generalize f m = p1 at HQ EL1
        generalize f (m - 1) = p0 at HQ0 EL1
        obtain ⟨x0, y0⟩ := p0
        obtain ⟨x1, y1⟩ := p1
        obtain ⟨s, o, rfl, g0, g1⟩ := HQ0
        obtain ⟨s', o', e', g2, g3⟩ := HQ
        injection e' with e'
        injection e' with e1 e2
        subst e1 e2
        dsimp only at g0 g1 g2 g3 EL1
        have hw1' : IntKind.i64.wrap ((m : Int) - 1) = ((m - 1 : Nat) : Int) := by rw [IntWalk.i64_in _ (by omega)]; omega
        have hlm1 : ((m - 1 : Nat) : Int) < (n : Int) := by omega
        have hw2 : IntKind.i64.wrap ((n : Int) - 2 + (cntL f m : Int) + 1) = (n : Int) - 2 + (cntL f m : Int) + 1 := IntWalk.i64_in _ (by omega)
        have k0 := hide (show ∀ u, Below wr.heap.size wr u → (u.cell? ⟨s, o + (m - 1) * 2, none⟩ = some (.int .i64 x0) ∧ u.cell? ⟨s, o + (m - 1) * 2 + 1, none⟩ = some (.int .i64 y0) ∧ u.cell? ⟨s, o + m * 2, none⟩ = some (.int .i64 x1) ∧ u.cell? ⟨s, o + m * 2 + 1, none⟩ = some (.int .i64 y1) ∧ Below wr.heap.size wr u) from fun u h => ⟨kc h g0, kc h g1, kc h g2, kc h g3, h⟩)
        have k00 := hide (unhide k0 _ (Below.refl wr.heap.size wr).drew)
        go_upto_region 10 with fail
        go_region_held3 (fun u => u.cell? ⟨s, o + (m - 1) * 2, none⟩ = some (.int .i64 x0) ∧ u.cell? ⟨s, o + (m - 1) * 2 + 1, none⟩ = some (.int .i64 y0) ∧ u.cell? ⟨s, o + m * 2, none⟩ = some (.int .i64 x1) ∧ u.cell? ⟨s, o + m * 2 + 1, none⟩ = some (.int .i64 y1) ∧ Below wr.heap.size wr u) (first | with_reducible exact unhide k00 | with_reducible exact unhide k0 _ (by assumption)) (first | (go_at_call 15; go_fit (unhide EL1 _); rintro e w5 ⟨rfl, hb5⟩; have h5 := below_undrew hb5; clear hb5))
        all_goals
          replace hb := hide (below_two (unhide hb) h5)
          by_cases hq : 0 < Q
          · have hn2 := hide (show (n : Int) - 2 + (cntL f m : Int) + 1 = (n : Int) - 2 + (cntL f (m + 1) : Int) by rw [unhide hcm, if_pos ⟨by omega, hq⟩]; omega)
            go_wp2_with fail
            go_roundw
            case rel => exact ⟨m + 1, by omega, by omega, by go_num, by rw [unhide hn2], hb⟩
            case measure => simp [intOf]; omega
          · have hn2 := hide (show cntL f (m + 1) = cntL f m by rw [unhide hcm, if_neg (fun e => hq e.2), Nat.add_zero])
            go_wp2_with fail
            go_roundw
            case rel => exact ⟨m + 1, by omega, by omega, by go_num, by rw [unhide hn2], hb⟩
            case measure => simp [intOf]; omega
      · have hme : m = n := by omega
        subst hme
        have hlm' : ¬ (m : Int) < (m : Int) := by omega
        rw [hNn]
        clear EL
        go_wp2_with fail
        -- each has four corners
        go_loopw [8] (fun i u => ∃ q : Nat, q ≤ N ∧ i = .int .i64 (q : Int) ∧ Hid (Below w4.heap.size w4 u)) (fun i _ => N - (intOf i).toNat)
        case atStart => exact ⟨0, Nat.zero_le _, rfl, hb⟩
        case round =>
          clear hb
          obtain ⟨q, hq, rfl, hb⟩ := hrel
          by_cases hlq : q < N
          · have hlq' : (q : Int) < (N : Int) := by omega
            obtain ⟨s, o, y, k, rfl, g0⟩ := unhide ELn _ _ _ _ q ((unhide L1).next (unhide hb)) hlq
            go_wp2_with fail
            go_roundw
            case rel => exact ⟨q + 1, by omega, by go_num, hb⟩
            case measure => simp [intOf]; omega
          · have hqe : q = N := by omega
            subst hqe
            have hlq' : ¬ (q : Int) < (q : Int) := by omega
            replace HB := hide (below_two (unhide HB) (unhide hb))
            replace HP := hide (fun i hi => (unhide HP i hi).next (unhide hb))
            replace HT := hide ((unhide HT).next (unhide hb))
            replace L1 := hide ((unhide L1).next (unhide hb))
            clear hb ELn
            have O5 := hide (fun u (hu : Below wr.heap.size wr u) => one_line (w := u) (c := cap) (fun i hi => (unhide HP i hi).next hu) ((unhide HT).next hu))
            go_wp2_with fail
            go_fit (unhide ES _ _ _ (fun i hi => ltof ((unhide O5 wr (Below.refl _ _)).1 i hi)))
            rintro r w6 ⟨v6, rfl, hl6, hb6⟩
            obtain ⟨a6, c6, e1⟩ := hl6.form
            rw [← unhide hN] at e1
            subst e1
            have L6 := hide hl6
            have W6 := hide (below_two (al1_below wr _) hb6)
            replace L1 := hide ((unhide L1).next (unhide W6))
            clear hl6 hb6 ES
            go_wp2_with fail
            go_fit (unhide EQ _ _ _ _ _ _ _ (unhide L1) (unhide L6))
            rintro r w7 ⟨rfl, hb7⟩
            replace W6 := hide (below_two (unhide W6) hb7)
            have O7 := hide (unhide O5 _ (unhide W6))
            clear hb7 L1 L6 EQ O5
            go_wp2_with fail
            go_fit (unhide E0 _ _ _ (unhide O7).1 (unhide O7).2)
            rintro r w8 ⟨v8, rfl, hl8', hb8⟩
            obtain ⟨a8, c8, e1⟩ := hl8'.form
            subst e1
            have W8 := hide (below_two (below_two (unhide W6) (al1_below w7 _)) hb8)
            clear hl8' hb8 E0 O7
            go_wp2_with fail
            go_ret
            exact ⟨rfl, below_two (unhide HB) (unhide W8)⟩
  · go_enter Tryt.func4, Try.ntmps4
    go_wp2_with fail
    refine (big_yes a0 len0 cap0 hl _).mono ?_
    rintro r w1 ⟨rfl, rfl⟩
    go_wp2_with fail
    go_ret
    exact ⟨rfl, Below.refl _ _⟩
end Go.Proofs.YtmofjlonmggpmaaTw

/-
  The sender's twin: all edges told as data.
-/
namespace Go.Proofs.YtmofjlonmggpmaaTw
open Go.RowKit Go.Goes
set_option linter.unusedVariables false

/-- Nothing is laid or changed. -/
def Same (w u : World) : Prop := Below w.heap.size w u ∧ u.heap.size = w.heap.size
theorem Same.drews {w u : World} (h : Same w u) (k : Nat) : Same w (u.drewN k) := ⟨below_drews h.1 k, h.2⟩
theorem edgesL_next (n : Nat) (f : Nat → Pt) (i : Nat) (h : 1 ≤ i) : edgesL n f (i + 1) = edgesL n f i ++ [edgeV (f (i - 1)) (f i) (decide (i < n - 1))] := by
  obtain ⟨j, rfl⟩ : ∃ j, i = j + 1 := ⟨i - 1, by omega⟩
  rfl
set_option maxHeartbeats 16000000 in
set_option maxRecDepth 100000 in
theorem twSends_any (N : Nat) (ln : Nat → Nat) (pf : Nat → Nat → Pt) (hN : N ≤ 4300000000000) (hl : ∀ i, i < N → ln i ≤ 1048576) (la : Option Addr) (lc : Nat) (c : Nat) (w : World) (HL : ∀ i, i < N → LArg w la i (ln i) (pf i)) :
    Calls Tryt.prog 78 #[.slice la N lc, .chan (some c)] w fun r w' => r = .returned (closedV c (edgesN ln pf N)) ∧ w'.heap.size = w.heap.size := by
  replace HL := hide HL
  have hend := hide (show ∀ A, A = encR c (edgesN ln pf N).reverse → Value.func (.func 1) #[] #[A, .chan (some c)] = closedV c (edgesN ln pf N) from fun A h => by rw [h]; rfl)
  go_enter Tryt.func78, Tryt.ntmps78
  go_wp2_with fail
  go_loopw [9, 37] (fun i v u => ∃ (q : Nat) (A : Value), q ≤ N ∧ i = .int .i64 q ∧ v = A ∧ Hid (A = encR c (edgesN ln pf q).reverse) ∧ Hid (Same w u)) (fun i _ _ => N - (intOf i).toNat)
  case atStart => exact ⟨0, _, Nat.zero_le _, rfl, rfl, rfl, Below.refl _ _, rfl⟩
  case round =>
    obtain ⟨q, A, hq, rfl, rfl, hA, hS⟩ := hrel
    by_cases hlt : q < N
    · have hlt' : (q : Int) < (N : Int) := by omega
      obtain ⟨s, o, z, c', hla, hc1, hc2⟩ := (unhide HL q hlt).next (unhide hS).1
      subst hla
      have hlq := hl q hlt
      have hnext := hide (show edgesN ln pf (q + 1) = edgesN ln pf q ++ edgesL (ln q) (pf q) (ln q) from rfl)
      have hP := hide (fun i (hi : i < ln q) => (unhide HL q hlt).choose_spec)
      clear hP
      obtain ⟨s', o', z', c2, e1, hd1, hd2⟩ := unhide HL q hlt
      have hz : z' = z := by
        injection e1 with e1
        injection e1 with e2 e3
        subst e2 e3
        have h1 := kc (unhide hS).1 hd1
        rw [h1] at hc1
        injection hc1 with hc1
        injection hc1
      subst hz
      have HP := hide (fun u (hu : Same w u) j (hj : j < ln q) => (hd2 j hj).next hu.1)
      clear hc2 hd1 hd2 e1
      generalize edgesN ln pf q = E0 at hA hnext
      generalize pf q = f at hnext HP
      generalize ln q = n at hnext HP hlq hc1
      go_upto_region 3 with fail
      go_wp2_with fail
      go_loopw [6, 37] (fun i v u => ∃ (m : Nat) (A : Value), 1 ≤ m ∧ (m ≤ n ∨ m = 1) ∧ i = .int .i64 m ∧ v = A ∧ Hid (A = encR c (E0 ++ edgesL n f m).reverse) ∧ Hid (Same w u)) (fun i _ _ => n - (intOf i).toNat)
      case atStart => exact ⟨1, _, Nat.le_refl _, .inr rfl, rfl, rfl, by rw [show edgesL n f 1 = [] from rfl, List.append_nil]; exact hA, hS⟩
      case round =>
        clear hA hS hc1
        obtain ⟨m, A, hm1, hm2, rfl, rfl, hA, hS⟩ := hrel
        by_cases hlm : m < n
        · have hlm' : (m : Int) < (n : Int) := by omega
          have HQ := unhide HP _ (unhide hS) m hlm
          have HQ0 := unhide HP _ (unhide hS) (m - 1) (by omega)
          have hEL := hide (edgesL_next n f m hm1)
          generalize f m = p1 at HQ hEL
          generalize f (m - 1) = p0 at HQ0 hEL
          obtain ⟨x0, y0⟩ := p0
          obtain ⟨x1, y1⟩ := p1
          obtain ⟨s, o, rfl, g0, g1⟩ := HQ0
          obtain ⟨s', o', e', g2, g3⟩ := HQ
          injection e' with e'
          injection e' with e1 e2
          subst e1 e2
          dsimp only at g0 g1 g2 g3
          have hw1 : IntKind.i64.wrap ((m : Int) - 1) = ((m - 1 : Nat) : Int) := by rw [IntWalk.i64_in _ (by omega)]; omega
          have hlm1 : ((m - 1 : Nat) : Int) < (n : Int) := by omega
          have hw2 : IntKind.i64.wrap ((n : Int) - 1) = (n : Int) - 1 := IntWalk.i64_in _ (by omega)
          have hd : decide ((m : Int) < (n : Int) - 1) = decide (m < n - 1) := by rw [decide_eq_decide]; omega
          go_upto_region 6 with fail
          go_quiet (fail)
          go_wp2_with fail
          go_roundw
          case rel => exact ⟨m + 1, _, by omega, .inl (by omega), by go_num, rfl, hide (by rw [unhide hEL, ← List.append_assoc, List.reverse_append, ← hd, unhide hA]; rfl), (unhide hS).drews _⟩
          case measure => simp [intOf]; omega
        · have hlm' : ¬ (m : Int) < (n : Int) := by omega
          have hEn := hide (show edgesL n f m = edgesL n f n by
            rcases hm2 with h | h
            · rw [show m = n by omega]
            · subst h
              have h2 : n = 0 ∨ n = 1 := by omega
              rcases h2 with h2 | h2 <;> rw [h2] <;> rfl)
          go_wp2_with fail
          go_roundw
          case rel => exact ⟨q + 1, _, by omega, by go_num, rfl, hide (by rw [unhide hnext, ← unhide hEn]; exact unhide hA), hS⟩
          case measure => simp [intOf]; omega
    · have hqe : q = N := by omega
      subst hqe
      have hlt' : ¬ (q : Int) < (q : Int) := by omega
      have hr := hide (unhide hend _ (unhide hA))
      go_wp2_with fail
      refine bodyPost_end (results_tmp rfl _ _ _) rfl ?_
      exact ⟨congrArg Ending.returned (unhide hr), (unhide hS).2⟩
end Go.Proofs.YtmofjlonmggpmaaTw

/-
  The stroke's goroutine, told: the program's good run out of a walk over the twin.
-/
namespace Go.Proofs.YtmofjlonmggpmaaTw
open Go.RowKit Go.Goes Go.Conc
set_option linter.unusedVariables false

theorem pt_arg {x : World} {p : Option Addr} {n : Nat} (h : ∀ i, i < n → PtAt x p i) : ∃ pf : Nat → Pt, ∀ i, i < n → PtArg x p i (pf i) := by
  have hq : ∀ i, ∃ q : Pt, i < n → PtArg x p i q := fun i => by
    by_cases hi : i < n
    · obtain ⟨a, X, Y, rfl, h1, h2⟩ := h i hi
      obtain ⟨a', X', Y', e, h3, _⟩ := h 0 (by omega)
      injection e with e
      subst e
      have hs : a.spot = none := spot_none (by rw [Nat.zero_mul, add_zero, add_zero] at h3; exact h3)
      obtain ⟨s, o, sp⟩ := a
      have hs' : sp = none := hs
      subst hs'
      rw [add_none, add_none] at h1 h2
      exact ⟨(X, Y), fun _ => ⟨s, o, rfl, h1, h2⟩⟩
    · exact ⟨(0, 0), fun h => absurd h hi⟩
  exact ⟨fun i => Classical.choose (hq i), fun i => Classical.choose_spec (hq i)⟩
theorem line_args {x : World} {p : Option Addr} {n : Nat} (h : ∀ j, j < n → LineAt x p j) : (∃ pf : Nat → Nat → Pt, ∀ i, i < n → LArg x p i (lnOf x p i) (pf i)) ∧ ∀ i, i < n → lnOf x p i ≤ 1048576 := by
  have hq : ∀ i, ∃ f : Nat → Pt, i < n → LArg x p i (lnOf x p i) f ∧ lnOf x p i ≤ 1048576 := fun i => by
    by_cases hi : i < n
    · obtain ⟨a, q, m, c, rfl, h1, h2, h3⟩ := h i hi
      obtain ⟨a', q', m', c', e, h4, _⟩ := h 0 (by omega)
      injection e with e
      subst e
      have hs : a.spot = none := spot_none (by rw [add_zero] at h4; exact h4)
      obtain ⟨s, o, sp⟩ := a
      have hs' : sp = none := hs
      subst hs'
      have hl : lnOf x (some ⟨s, o, none⟩) i = m := by unfold lnOf; dsimp only; rw [h1]
      rw [add_none] at h1
      obtain ⟨pf, hp⟩ := pt_arg h3
      unfold bigP at h2
      exact ⟨pf, fun _ => ⟨⟨s, o, q, c, rfl, by rw [hl]; exact h1, by rw [hl]; exact hp⟩, by rw [hl]; omega⟩⟩
    · exact ⟨fun _ => (0, 0), fun h => absurd h hi⟩
  exact ⟨⟨fun i => Classical.choose (hq i), fun i hi => (Classical.choose_spec (hq i) hi).1⟩, fun i hi => (Classical.choose_spec (hq i) hi).2⟩
theorem larg_ok {x w : World} (hO : Okc x.heap.size x w) {p : Option Addr} {i n : Nat} {pf : Nat → Pt} (h : LArg x p i n pf) : LArg w p i n pf :=
  let ⟨s, o, z, c, h1, h2, h3⟩ := h
  ⟨s, o, z, c, h1, okc_cell hO (cell_lt h2) h2, fun j hj => let ⟨s', o', g0, g1, g2⟩ := h3 j hj; ⟨s', o', g0, okc_cell hO (cell_lt g1) g1, okc_cell hO (cell_lt g2) g2⟩⟩
theorem sumN_is (f : Nat → Nat) : ∀ n, Goes.sumN f n = sumLn f n
  | 0 => rfl
  | n + 1 => by unfold Goes.sumN sumLn; rw [sumN_is f n]
/-- What the check shows of the lines is all that is asked of them. -/
theorem lines_ok (x : World) (p : Option Addr) (n cc : Nat) (width : Int) (h1 : (n : Int) < bigL) (h2 : (Goes.sumN (lnOf x p) n : Int) < bigS) (h3 : ∀ j, j < n → LineAt x p j) :
    ∃ aY vs0 Ok, Lines8 Tryt.old Tryt.funcs 70 Tryt.zero 25 74 77 #[.slice p n cc, .int .i64 width] #[.slice p n cc, .int .i64 width] x.heap.size (.slice p n cc) aY vs0 Ok ∧ Ok x := by
  obtain ⟨⟨pf, hL⟩, hl⟩ := line_args h3
  have hN : n ≤ 4300000000000 := by unfold bigL at h1; omega
  have hT : sumLn (lnOf x p) n ≤ 2900000000000 := by rw [← sumN_is]; unfold bigS at h2; omega
  refine ⟨.int .i64 0, edgesN (lnOf x p) pf n, Okc x.heap.size x, ⟨rfl, okc_V, okc_U, okc_B, fun x' hO => ?_, fun x' hO τ => ?_, fun u c hBc hO hch => ?_⟩, okc_refl _ _⟩
  · exact twAll_any n cc (lnOf x p) pf p hN hl (x'.re (fun _ _ => 0) 0) (fun i hi => larg_ok (w := x') hO (hL i hi))
  · exact twTwo_any n (lnOf x p) pf hN hl hT p cc width (x'.re τ 0) (fun i hi => larg_ok (w := x') hO (hL i hi))
  · have hc : c < u.heap.size := (Array.getElem?_eq_some_iff.1 hch).1
    refine sends_of (F := (· ∈ [78])) Tryt.noSteps Tryt.static (calmFns_of Tryt.calmZ) (List.mem_singleton.2 rfl) Tryt.sender Tryt.func78 rfl (show (2 : Nat) ≤ _ by decide) hBc hc (fun τ => ?_)
    refine (twSends_any n (lnOf x p) pf hN hl p cc c ((cutW u x.heap.size).re τ 0) (fun i hi => larg_ok (w := cutW u x.heap.size) (okc_B u _ (fun k hk => cutW_get hk) hO) (hL i hi))).mono ?_
    rintro r w' ⟨rfl, h⟩
    exact ⟨rfl, h.trans (cutW_size (by omega))⟩
set_option maxRecDepth 100000 in
/-- **The program's good run, from a walk over the twin.** -/
theorem good_of_twin {fsl ftl : List FuncId} (hT : Goes.Tw Tryt.old Tryt.funcs fsl 8) (hcalm : calmFnsB Tryt.prog ftl = true) (hsome : (fsl.all fun f => (Tryt.old.funcs[f]?).isSome) = true)
    {f : FuncId} {fn : Func} {r : Nat} (hf : f ∈ ftl) (hfs : f ∈ fsl) (hfS : f ≠ 8) (hfn : Tryt.old.funcs[f]? = some fn) (hres : fn.results = #[.tmp r]) (hinit : Tryt.old.inits.idxOf? f = none) {args : Array Value} {W : World} {Post : Value → World → Prop}
    (h : ∀ τ, Calls Tryt.prog f args (W.re τ 0) fun e W' => e = .returned (.bool true) ∧ Below W.heap.size (W.re τ 0) W')
    (hpost : ∀ u u', Below W.heap.size W u → u'.Alike u → Post (.bool true) u') :
    ∃ M last o w' t', runNT Tryt.old (M + 1) (solo (G (Frame.enter Tryt.old f args .normal) []) W) #[] = (.ended o w', t') ∧ runN Tryt.old M (solo (G (Frame.enter Tryt.old f args .normal) []) W) = .next last ∧ step Tryt.old last = .ended o w' ∧ Conc.Good Tryt.old Post last o w' t' := by
  refine good_of_ends (law_runs (fs := fsl) (S := 8) (FT := (· ∈ ftl)) (PostX := fun v x => v = .bool true ∧ ∃ τ, Below W.heap.size (W.re τ 0) x) Tryt.noSteps Tryt.static (calmFns_of hcalm) hT (fun f hf => List.all_eq_true.1 hsome f hf) ?_ hf hfs hfS hfn hres hinit ?_ (fun τ => (h τ).mono fun e W' ⟨he, hb⟩ => ⟨_, he, rfl, τ, hb⟩))
  · exact stroke_good (fsl := fsl) Tryt.base Tryt.real8 Tryt.parS Tryt.chkOp Tryt.ts Tryt.func75 (by rw [Tryt.is75]; rfl) (by rw [Tryt.is75]; rfl) (by rw [Tryt.is75]; rfl) Tryt.name75
      Tryt.func76 (by rw [Tryt.is76]; rfl) (by rw [Tryt.is76]; rfl) (by rw [Tryt.is76]; rfl) Tryt.name76 Tryt.func77 (by rw [Tryt.is77]; rfl) (by rw [Tryt.is77]; rfl) (by rw [Tryt.is77]; rfl) lines_ok
  · rintro v x u τ0 d0 ⟨rfl, τ, hb⟩ hV hL τ1 d1
    refine hpost { u with tape := W.tape } _ ⟨?_, rfl, ?_, ?_, fun k hk => ?_⟩ ⟨rfl, rfl, rfl⟩
    · exact hV.os.trans hb.os
    · exact hV.output.trans hb.output
    · exact Nat.le_trans hb.size (Nat.le_of_eq hV.size.symm)
    · have hx : x.heap[k]? = W.heap[k]? := hb.block k hk
      show u.heap[k]? = W.heap[k]?
      have ho := Array.getElem?_eq_getElem hk
      rw [ho] at hx
      obtain ⟨o', h1, h2⟩ := hV.block k _ hx
      cases e : W.heap[k] with
      | cells c t f =>
        rw [e] at h2 hx ho
        rcases h2 with h2 | ⟨_, _, _, _, _, _, _, h2, _⟩ | ⟨h2, _⟩
        · rw [h1, h2, ho]
        · cases h2
        · cases h2
      | _ => exact (hL k _ ho (fun c t f h => by rw [e] at h; cases h)).trans ho.symm
end Go.Proofs.YtmofjlonmggpmaaTw
