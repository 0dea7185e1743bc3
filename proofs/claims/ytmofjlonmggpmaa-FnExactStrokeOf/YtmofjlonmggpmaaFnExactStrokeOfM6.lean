/-
  TwTwC · TwTwS · TwStrokeT · TwLinesL · TwLinesA · TwLinesB · TwLinesW · TwTwX · TwOpenAgg · TwOpenPts · TwOpenPath · TwOpenLines · TwTwZ · TwTwG: texts of one claim, in one.
-/
import Derived.Test.YtmofjlonmggpmaaFnExactStrokeOfM5
import Derived.Deep.RegionHeld3
import Derived.Deep.DeepCutAuto
import Derived.Deep.DeepFit
import Derived.Test.YtmofjlonmggpmaaFnExactStrokeOfM4
import Derived.ProofKit
import Derived.OpenShut
import Derived.ChangeArms
import Derived.Deep.SlicePairs
import Derived.ChangeSlices
import Derived.Deep.Slices
import Derived.BigQuiet
import Derived.ChangeAlike

/-
  The check of the lines goes well, where they are laid as lists.
-/
namespace Go.Proofs.YtmofjlonmggpmaaTw
open Go.RowKit Go.Goes
set_option linter.unusedVariables false

/-- The rows of the lists are of their types. -/
def OfTy (w : World) (a : Option Addr) (e : TypeId) : Prop := ∀ s o, a = some ⟨s, o, none⟩ → ∃ cs f, w.heap[s]? = some (.cells cs e f)
theorem place_ok {w : World} {s o : Nat} {e : TypeId} {cs : Array Value} {f : Nat × Nat} (h : w.heap[s]? = some (.cells cs e f)) {i : TypeInfo} (hi : Tryt.prog.info? e = some i) (ha : 1 ≤ i.align) {b : Nat} (hs : Tryt.prog.cellsOf e ≠ 0) (hb : byteOfCell Tryt.prog Tryt.prog.depth e (o % Tryt.prog.cellsOf e) = some b) :
    (binOp .rem 3 (.pointer (some ⟨s, o, none⟩)) (.int .u64 1)).run Tryt.prog w = .ok (.int .u64 0) w := by
  have e0 : ∀ {α : Type} (k : Option (TypeId × Nat) → Sem α), Sem.run Tryt.prog (Sem.shape s k) w = Sem.run Tryt.prog (k (some (e, cs.size))) w := fun k => by
    show Sem.run Tryt.prog (k (w.shape? s)) w = _
    unfold World.shape?
    rw [h]
  show (do Op.addrMod .u64 (← behindNumber ⟨s, o, none⟩).1 1 : Sem Value).run Tryt.prog w = _
  have e1 : (behindNumber ⟨s, o, none⟩).run Tryt.prog w = .ok (⟨s, o, none⟩, false) w := by
    simp [behindNumber, numberAt, shape, go_sem, e0]
  have hi' : (typeInfo e).run Tryt.prog w = .ok i w := by
    unfold typeInfo
    simp [go_sem, hi]
  have e2 : (byteOf ⟨s, o, none⟩).run Tryt.prog w = .ok (o / Tryt.prog.cellsOf e * Tryt.prog.bytesOf e + b) w := by
    simp [byteOf, noView, viewAt, shape, go_sem, e0, hs, hb]
  have e3 : (Op.addrMod .u64 ⟨s, o, none⟩ 1).run Tryt.prog w = .ok (.int .u64 0) w := by
    simp [Op.addrMod, shape, go_sem, e0, hi', e2, Nat.mod_one]
    omega
  simp [go_sem, e1, e3]
theorem place_pt {w : World} {s o : Nat} {cs : Array Value} {f : Nat × Nat} (h : w.heap[s]? = some (.cells cs 38 f)) : (binOp .rem 3 (.pointer (some ⟨s, o, none⟩)) (.int .u64 1)).run Tryt.prog w = .ok (.int .u64 0) w := by
  have hc : Tryt.prog.cellsOf 38 = 2 := by kernel_rfl
  have h2 : o % 2 = 0 ∨ o % 2 = 1 := by omega
  rcases h2 with h2 | h2
  · exact place_ok h (i := (Tryt.prog.info? 38).getD default) (by kernel_rfl) (of_decide_eq_true (by kernel_rfl)) (b := 0) (by rw [hc]; decide) (by rw [hc, h2]; kernel_rfl)
  · exact place_ok h (i := (Tryt.prog.info? 38).getD default) (by kernel_rfl) (of_decide_eq_true (by kernel_rfl)) (b := 8) (by rw [hc]; decide) (by rw [hc, h2]; kernel_rfl)
theorem place_ls {w : World} {s o : Nat} {cs : Array Value} {f : Nat × Nat} (h : w.heap[s]? = some (.cells cs 32 f)) : (binOp .rem 3 (.pointer (some ⟨s, o, none⟩)) (.int .u64 1)).run Tryt.prog w = .ok (.int .u64 0) w := by
  have hc : Tryt.prog.cellsOf 32 = 1 := by kernel_rfl
  have h2 : o % 1 = 0 := by omega
  exact place_ok h (i := (Tryt.prog.info? 32).getD default) (by kernel_rfl) (of_decide_eq_true (by kernel_rfl)) (b := 0) (by rw [hc]; decide) (by rw [hc, h2]; kernel_rfl)

set_option maxHeartbeats 4000000 in
set_option maxRecDepth 100000 in
theorem twPoints_any (n c : Nat) (pf : Nat → Pt) (x : Option Addr) (z : Value) (hn : n ≤ 1048576) (w : World) (P : ∀ i, i < n → PtArg w x i (pf i)) (T : OfTy w x 38) : ∀ (m k : Nat) (hk : k + m = n),
    Calls Tryt.prog 75 #[.slice x n c, .int .i64 (k : Int), z] w fun r w' => r = .returned (.tuple #[]) ∧ w' = w := by
  intro m
  induction m with
  | zero =>
    intro k hk
    have hkn : ¬ (k : Int) < (n : Int) := by omega
    have hnb : (n : Int) < 1048577 := by omega
    clear P
    go_enter Tryt.func75, Tryt.ntmps75
    go_wp2_with fail
    go_end0
    exact ⟨rfl, rfl⟩
  | succ m ih =>
    intro k hk
    have hkn : (k : Int) < (n : Int) := by omega
    have hnb : (n : Int) < 1048577 := by omega
    have HP := P k (by omega)
    generalize pf k = q at HP
    obtain ⟨px, py⟩ := q
    obtain ⟨s, o, rfl, g0, g1⟩ := HP
    dsimp only at g0 g1
    have hf0 : ∀ w : World, (Instr.field 38 (.agg #[.int .i64 px, .int .i64 py]) 0).run Tryt.prog w = .ok (.int .i64 px) w := fun _ => by kernel_rfl
    have hf1 : ∀ w : World, (Instr.field 38 (.agg #[.int .i64 px, .int .i64 py]) 1).run Tryt.prog w = .ok (.int .i64 py) w := fun _ => by kernel_rfl
    obtain ⟨cs, f, hrow⟩ := T s o rfl
    have hpl := hide (fun o => place_pt (o := o) hrow)
    have hp2 := unhide hpl
    replace ih := ih (k + 1) (by omega)
    rw [show ((k + 1 : Nat) : Int) = (k : Int) + 1 from by omega] at ih
    replace ih := hide ih
    clear P T hrow hpl
    go_enter Tryt.func75, Tryt.ntmps75
    go_wp2_with fail
    go_fit (unhide ih)
    rintro r w1 ⟨rfl, rfl⟩
    go_wp2_with fail
    go_end0
    exact ⟨rfl, rfl⟩
/-- A list of the lines, laid as one. -/
def LTy (w : World) (a : Option Addr) (i : Nat) (n : Nat) (pf : Nat → Pt) : Prop := ∃ s o x c, a = some ⟨s, o, none⟩ ∧ w.cell? ⟨s, o + i, none⟩ = some (.slice x n c) ∧ (∀ j, j < n → PtArg w x j (pf j)) ∧ OfTy w x 38
set_option maxHeartbeats 4000000 in
set_option maxRecDepth 100000 in
theorem twLines_any (N c : Nat) (ln : Nat → Nat) (pf : Nat → Nat → Pt) (la : Option Addr) (hN : N ≤ 4300000000000) (hl : ∀ i, i < N → ln i ≤ 1048576) (hT : sumLn ln N ≤ 2900000000000) (w : World) (L : ∀ i, i < N → LTy w la i (ln i) (pf i)) (T : OfTy w la 32) : ∀ (m k : Nat) (hk : k + m = N),
    Calls Tryt.prog 76 #[.slice la N c, .int .i64 (k : Int), .int .i64 (sumLn ln k : Int)] w fun r w' => r = .returned (.tuple #[]) ∧ w' = w := by
  intro m
  induction m with
  | zero =>
    intro k hk
    have hkn : ¬ (k : Int) < (N : Int) := by omega
    have hnb : (N : Int) < 4300000000001 := by omega
    clear L T
    go_enter Tryt.func76, Tryt.ntmps76
    go_wp2_with fail
    go_end0
    exact ⟨rfl, rfl⟩
  | succ m ih =>
    intro k hk
    have hkn : (k : Int) < (N : Int) := by omega
    have hnb : (N : Int) < 4300000000001 := by omega
    obtain ⟨s, o, x, c', rfl, g0, HP, HT⟩ := L k (by omega)
    obtain ⟨cs, f, hrow⟩ := T s o rfl
    have hp2 := fun o => place_ls (o := o) hrow
    have EP := twPoints_any (ln k) c' (pf k) x (.int .i64 0) (hl k (by omega)) w HP HT (ln k) 0 (by omega)
    replace EP := hide EP
    replace ih := ih (k + 1) (by omega)
    have hs1 : sumLn ln (k + 1) = sumLn ln k + ln k := rfl
    have hs2 := sumLn_le (ln := ln) (show k + 1 ≤ N by omega)
    rw [hs1] at ih hs2
    rw [show ((k + 1 : Nat) : Int) = (k : Int) + 1 from by omega, show ((sumLn ln k + ln k : Nat) : Int) = (sumLn ln k : Int) + (ln k : Int) from by omega] at ih
    generalize sumLn ln k = S at ih hs2 ⊢
    generalize ln k = q at ih hs2 g0 EP
    have hsb : (S : Int) + (q : Int) < 2900000000001 := by omega
    have hsw : IntKind.i64.wrap ((S : Int) + (q : Int)) = (S : Int) + (q : Int) := IntWalk.i64_in _ (by omega)
    replace ih := hide ih
    clear L T hrow HP HT hT hs1 hs2 hl
    go_enter Tryt.func76, Tryt.ntmps76
    go_wp2_with fail
    go_fit (unhide EP)
    rintro r w1 ⟨rfl, rfl⟩
    go_wp2_with fail
    go_fit (unhide ih)
    rintro r w1 ⟨rfl, rfl⟩
    go_wp2_with fail
    go_end0
    exact ⟨rfl, rfl⟩
set_option maxHeartbeats 4000000 in
set_option maxRecDepth 100000 in
/-- **The check goes well.** -/
theorem twCheck_any (N c : Nat) (ln : Nat → Nat) (pf : Nat → Nat → Pt) (la : Option Addr) (W : Int) (hN : N ≤ 4300000000000) (hl : ∀ i, i < N → ln i ≤ 1048576) (hT : sumLn ln N ≤ 2900000000000) (w : World) (L : ∀ i, i < N → LTy w la i (ln i) (pf i)) (T : OfTy w la 32) :
    Calls Tryt.prog 77 #[.slice la N c, .int .i64 W] w fun r w' => r = .returned (.tuple #[]) ∧ w' = w := by
  have E := hide (twLines_any N c ln pf la hN hl hT w L T N 0 (by omega))
  clear L T hl hT
  go_enter Tryt.func77, Tryt.ntmps77
  go_wp2_with fail
  go_fit (unhide E)
  rintro r w1 ⟨rfl, rfl⟩
  go_wp2_with fail
  go_end0
  exact ⟨rfl, rfl⟩
end Go.Proofs.YtmofjlonmggpmaaTw

/-
  The twin's StrokeOf and its second form. (By strokew.py.)
-/
namespace Go.Proofs.YtmofjlonmggpmaaTw
open Go.RowKit Go.Goes
set_option linter.unusedVariables false

theorem mk_chan (w : World) : (Instr.makeChan 48 (.int .i64 0)).run Tryt.prog w = .ok (.chan (some w.heap.size)) (w.alloc (.chan 0 #[] false 0 0 false)) := by kernel_rfl
/-- The edges that are left, with what is told last. -/
def leftV (a : Value) (es : List Edge) : Value := .tuple #[a, .bool true, Lapp (es.map edV) (.tuple #[edgeV (0, 0) (0, 0) false, .bool false])]
/-- What is told next. -/
def nextV : List Edge → Value
  | [] => .tuple #[edgeV (0, 0) (0, 0) false, .bool false]
  | e :: es => leftV (edV e) es
theorem nextV_lapp : ∀ es : List Edge, Lapp (es.map edV) (.tuple #[edgeV (0, 0) (0, 0) false, .bool false]) = nextV es
  | [] => rfl
  | _ :: _ => rfl
theorem nextV_cons (e : Edge) (es : List Edge) : nextV (e :: es) = .tuple #[.agg #[.int .i64 e.1.1, .int .i64 e.1.2, .int .i64 e.2.1.1, .int .i64 e.2.1.2, .bool e.2.2], .bool true, nextV es] := by
  show leftV _ _ = _
  unfold leftV
  rw [nextV_lapp]
  rfl
theorem size_next (a X : Value) : SizeOf.sizeOf X < SizeOf.sizeOf (Value.tuple #[a, .bool true, X]) := by
  simp only [Value.tuple.sizeOf_spec, Array.mk.sizeOf_spec, List.cons.sizeOf_spec]
  omega
theorem row5e {w1 : World} {b : Nat} {x0 x1 x2 x3 x4 : Value} {t : TypeId} (h : w1.heap[b]? = some (.cells #[x0, x1, x2, x3, x4] t (0, 0))) : w1.cell? ⟨b, 0, none⟩ = some x0 ∧ w1.cell? ⟨b, 1, none⟩ = some x1 ∧ w1.cell? ⟨b, 2, none⟩ = some x2 ∧ w1.cell? ⟨b, 3, none⟩ = some x3 ∧ w1.cell? ⟨b, 4, none⟩ = some x4 := by
  refine ⟨?_, ?_, ?_, ?_, ?_⟩ <;> exact cell_of_row _ _ _ _ _ _ h
theorem edge_grown {u u' : World} {base n : Nat} {v q : Value} {xs : List Value} (ho : u.ownsRow base 32 1 v n xs) (hg : (u.alloc (.cells #[q] 32)).grownBy u' v.ownBlock) {b : Nat} {cs : Array Value} {f : Nat × Nat} (h : u.heap[b]? = some (.cells cs 51 f)) : u'.heap[b]? = some (.cells cs 51 f) :=
  grown_row (own_below ho (al1_below u _)) hg (row_next (al1_below u _) h) (by decide)
theorem ltof {w : World} {la : Option Addr} {i n : Nat} {pf : Nat → Pt} (h : LTy w la i n pf) : LArg w la i n pf := let ⟨s, o, x, c, h1, h2, h3, _⟩ := h; ⟨s, o, x, c, h1, h2, h3⟩
theorem edN_len (ln : Nat → Nat) (pf : Nat → Nat → Pt) : ∀ k, (edN ln pf k).length ≤ sumLn ln k
  | 0 => Nat.zero_le _
  | k + 1 => by
    have h1 := edN_len ln pf k
    have h2 : ∀ (n : Nat) (f : Nat → Pt) m, (edL n f m).length ≤ m := fun n f m => by
      induction m with
      | zero => simp [edL]
      | succ m ih =>
        cases m with
        | zero => simp [edL]
        | succ m => simp only [edL, List.length_append, List.length_singleton]; omega
    have h3 := h2 (ln k) (pf k) (ln k)
    simp only [edN, List.length_append, sumLn]
    omega
theorem stepE_len (W : Int) (e : Edge) : (stepE W e).length ≤ 2 := by
  unfold stepE
  rw [List.length_append]
  split <;> split <;> simp
theorem flatE_len (W : Int) : ∀ es : List Edge, (es.flatMap (stepE W)).length ≤ 2 * es.length
  | [] => by simp
  | e :: es => by
    have h1 := stepE_len W e
    have h2 := flatE_len W es
    simp only [List.flatMap_cons, List.length_append, List.length_cons]
    omega
/-- Each end of an edge is one of the points. -/
theorem edN_ok {ln : Nat → Nat} {pf : Nat → Nat → Pt} : ∀ {N : Nat}, AllPt N ln pf → ∀ e ∈ edN ln pf N, pointOkB e.1.1 e.1.2 = true ∧ pointOkB e.2.1.1 e.2.1.2 = true
  | 0, _, e, h => by cases h
  | k + 1, hA, e, h => by
    have h2 : ∀ (n : Nat) (f : Nat → Pt), (∀ j, j < n → pointOkB (f j).1 (f j).2 = true) → ∀ m, m ≤ n → ∀ e ∈ edL n f m, pointOkB e.1.1 e.1.2 = true ∧ pointOkB e.2.1.1 e.2.1.2 = true := fun n f hf m => by
      induction m with
      | zero => intro _ e h; cases h
      | succ m ih =>
        intro hm
        cases m with
        | zero => intro e h; cases h
        | succ m =>
          intro e h
          simp only [edL, List.mem_append, List.mem_singleton] at h
          rcases h with h | rfl
          · exact ih (by omega) e h
          · exact ⟨hf _ (by omega), hf _ (by omega)⟩
    simp only [edN, List.mem_append] at h
    rcases h with h | h
    · exact edN_ok (fun i hi j hj => hA i (by omega) j hj) e h
    · exact h2 _ _ (fun j hj => hA k (by omega) j hj) _ (Nat.le_refl _) e h

set_option maxHeartbeats 16000000 in
set_option maxRecDepth 100000 in
/-- **The second form**: its tree is known. -/
theorem twTwo_any (N : Nat) (ln : Nat → Nat) (pf : Nat → Nat → Pt) (hN : N ≤ 4300000000000) (hl : ∀ i, i < N → ln i ≤ 1048576) (hT : sumLn ln N ≤ 2900000000000) (la : Option Addr) (lc : Nat) (W : Int) (w : World) (HL : ∀ i, i < N → LArg w la i (ln i) (pf i)) :
    Calls Tryt.prog 70 #[.slice la N lc, .int .i64 W] w fun r w' => ∃ v sq, r = .returned (.tuple #[v, sq]) ∧ (sq = undef ∨ ∃ a, sq = .tuple #[a, .bool false]) := by
  obtain ⟨i2, hi2, hz2, hs2, hb2⟩ := info_parts infoPts
  have hA : ∃ y : Bool, y = true ↔ AllPt N ln pf := by
    by_cases h : AllPt N ln pf
    · exact ⟨true, fun _ => h, fun _ => rfl⟩
    · exact ⟨false, fun h0 => (by cases h0), fun h1 => absurd h1 h⟩
  obtain ⟨y, hy⟩ := hA
  have EW := hide (implWidthOk_any W)
  have EA := hide (fun u (hu : Below w.heap.size w u) => implLinesOk_any N ln pf hN hl la lc y hy u (fun i hi => (HL i hi).next hu))
  have EY := hide (fun u (hu : Below w.heap.size w u) => show Calls Tryt.prog 74 #[.slice la N lc] u (fun r w' => ∃ X, r = .returned (.tuple #[.int .i64 0, .bool true, X]) ∧ Hid (X = nextV (edN ln pf N)) ∧ w' = u) by
    refine (twAll_any N lc ln pf la hN hl u (fun i hi => (HL i hi).next hu)).mono ?_
    rintro r w1 ⟨rfl, rfl⟩
    exact ⟨_, rfl, by rw [edgesN_map, lv_lapp]; exact nextV_lapp _, rfl⟩)
  have hno := hide (fun (h : inB W 1 2048 = false) => show strokeA W N ln pf = [] from if_neg (fun e => by rw [h] at e; cases e.1))
  have hbad := hide (fun (h : y = false) => show strokeA W N ln pf = [] from if_neg (fun e => by rw [hy.2 e.2] at h; cases h))
  have hyes := hide (fun (h : inB W 1 2048 = true) (ha : y = true) => show strokeA W N ln pf = (edN ln pf N).flatMap (stepE W) from (if_pos ⟨h, hy.1 ha⟩).trans (strokeN_edges W ln pf N))
  have hok := hide (fun (ha : y = true) => edN_ok (hy.1 ha))
  have hlen := hide (Nat.le_trans (edN_len ln pf N) hT)
  generalize strokeA W N ln pf = R at hno hbad hyes ⊢
  generalize edN ln pf N = es at EY hyes hok hlen
  go_enter Tryt.func70, Tryt.ntmps70
  clear HL hT hl hy
  go_upto_region 2 with fail
  have G := hide (GL.begin w w (Below.refl _ _))
  generalize w.alloc (.cells #[] 32) = V at G ⊢
  generalize (some (⟨w.heap.size, 0, none⟩ : Addr)) = a5 at G ⊢
  go_wp2_with fail
  go_fit (unhide EW _)
  rintro r w1 ⟨rfl, rfl⟩
  cases hw : inB W 1 2048 with
  | false =>
    have hR := hide (unhide hno hw)
    clear EA EY hyes hok hlen
    go_wp2_with fail
    go_ret2
    exact ⟨_, _, rfl, .inl rfl⟩
  | true =>
  have hW := inB_true.1 hw
  replace hyes := hide (unhide hyes hw)
  clear hno hw EW
  go_wp2_with fail
  go_fit (unhide EA _ (unhide G).2.2)
  rintro r w2 ⟨rfl, hb2'⟩
  replace G := hide ((unhide G).next hb2')
  clear hb2' EA
  cases hyv : y with
  | false =>
    have hR := hide (unhide hbad hyv)
    subst hyv
    clear EY hyes hok hlen
    go_wp2_with fail
    go_ret2
    exact ⟨_, _, rfl, .inl rfl⟩
  | true =>
  replace hyes := hide (unhide hyes hyv)
  replace hok := hide (unhide hok hyv)
  subst hyv
  clear hbad
  have hmk := mk_chan
  go_upto_region 5 with fail
  replace G := hide ((unhide G).next (al1_below _ (.chan 0 #[] false 0 0 false)))
  generalize w2.alloc (.chan 0 #[] false 0 0 false) = V3 at G ⊢
  generalize w2.heap.size = c3
  clear hmk
  go_wp2_with fail
  go_fit (unhide EY _ (unhide G).2.2)
  rintro r w4 ⟨X, rfl, hX, hw4⟩
  subst hw4
  clear EY
  go_wp2_with fail
  go_loopw [5, 23] (fun v q u => ∃ (done rest : List Edge) (a X : Value) (vs : List Value) (L : List (List Pt)), Hid (done ++ rest = es) ∧ q = .tuple #[a, .bool true, X] ∧ Hid (X = nextV rest) ∧ Hid (L = done.flatMap (stepE W)) ∧ Hid (GL w u v L vs)) (fun _ q _ => SizeOf.sizeOf q)
  case atStart => exact ⟨[], es, _, _, [], [], rfl, rfl, hX, rfl, G⟩
  case round =>
    clear G hX
    obtain ⟨done, rest, a, X, vs, L, hes, rfl, hX, hL, G⟩ := hrel
    obtain ⟨av, cv, e1⟩ := (unhide G).form
    subst e1
    cases rest with
    | nil =>
      have hX2 := unhide hX
      unfold nextV edgeV at hX2
      subst hX2
      have hR := hide (show L = R by rw [unhide hyes, ← unhide hes, List.append_nil]; exact unhide hL)
      clear hX hok hlen hyes
      go_wp2_with fail
      go_ret2
      exact ⟨_, _, rfl, .inr ⟨_, rfl⟩⟩
    | cons e rest =>
      have hX2 := unhide hX
      rw [nextV_cons] at hX2
      subst hX2
      clear hX
      have hsz := size_next a (.tuple #[.agg #[.int .i64 e.1.1, .int .i64 e.1.2, .int .i64 e.2.1.1, .int .i64 e.2.1.2, .bool e.2.2], .bool true, nextV rest])
      obtain ⟨X, hX⟩ : ∃ X, Hid (X = nextV rest) := ⟨_, rfl⟩
      rw [← unhide hX] at hsz ⊢
      have hmem : e ∈ es := by rw [← unhide hes]; simp
      obtain ⟨hpo, hpq⟩ := unhide hok e hmem
      have hes2 := hide (show (done ++ [e]) ++ rest = es by rw [← unhide hes]; simp)
      have hlen2 := hide (show L.length + 2 ≤ 5800000000002 by
        have h1 := flatE_len W done
        have h2 := congrArg List.length (unhide hes2)
        have h3 := unhide hlen
        simp only [List.length_append, List.length_singleton] at h2
        rw [unhide hL]
        omega)
      have hstep := hide (show (done ++ [e]).flatMap (stepE W) = L ++ stepE W e by rw [List.flatMap_append, ← unhide hL]; simp)
      obtain ⟨⟨px, py⟩, ⟨qx, qy⟩, b⟩ := e
      dsimp only at hpo hpq hsz ⊢
      obtain ⟨QL, hQL⟩ : ∃ z, Hid (quadW W (px, py) (qx, qy) = z) := ⟨_, rfl⟩
      have EQ := hide (fun u => show Calls Tryt.prog 26 #[.agg #[.int .i64 px, .int .i64 py], .agg #[.int .i64 qx, .int .i64 qy], .int .i64 W] u (fun r w' => ∃ v, r = .returned v ∧ w'.ownsRow u.heap.size 38 2 v QL.length (ptsV QL) ∧ Below u.heap.size u w') by
        have h := implQuadOf_any px py qx qy W (lenC (px, py) (qx, qy)) (lenC_is (px, py) (qx, qy)) u
        rw [show quadC px py qx qy W (lenC (px, py) (qx, qy)) = quadW W (px, py) (qx, qy) from rfl, unhide hQL] at h
        exact h)
      have hst1 := hide (fun (h : 0 < QL.length) => show stepE W ((px, py), (qx, qy), b) = [QL] ++ (if b = true then [jointW W (qx, qy)] else []) by
        unfold stepE
        dsimp only
        rw [unhide hQL, if_pos h])
      have hst0 := hide (fun (h : ¬ 0 < QL.length) => show stepE W ((px, py), (qx, qy), b) = (if b = true then [jointW W (qx, qy)] else []) by
        unfold stepE
        dsimp only
        rw [unhide hQL, if_neg h, List.nil_append])
      generalize stepE W ((px, py), (qx, qy), b) = SE at hstep hst1 hst0
      clear hQL hmem hok hes hyes hlen
      go_upto_region 9 with fail
      have RW := hide (new_row wr (.cells #[.int .i64 px, .int .i64 py, .int .i64 qx, .int .i64 qy, .bool b] 51))
      replace G := hide ((unhide G).next (al1_below wr (.cells #[.int .i64 px, .int .i64 py, .int .i64 qx, .int .i64 qy, .bool b] 51)))
      generalize wr.alloc (.cells #[.int .i64 px, .int .i64 py, .int .i64 qx, .int .i64 qy, .bool b] 51) = V5 at RW G ⊢
      generalize wr.heap.size = b5 at RW ⊢
      obtain ⟨k0, k1, k2, k3, k4⟩ := row5e (unhide RW)
      go_wp2_with fail
      go_fit (unhide EQ _)
      rintro r w6 ⟨qv, rfl, hqo, hb6⟩
      obtain ⟨aq, cq, eq⟩ := own_form hqo
      subst eq
      replace RW := hide (row_next hb6 (unhide RW))
      have G2 := hide ((unhide G).next hb6)
      have hb6h := hide hb6
      replace hqo := hide hqo
      clear hb6 k0 k1 k2 k3 k4 EQ
      go_upto_if 34 with fail
      go_cut [5] from 24 to 48 (fun v u => ∃ (vs : List Value) (L' : List (List Pt)), Hid (L' ++ (if b = true then [jointW W (qx, qy)] else []) = L ++ SE) ∧ L'.length ≤ L.length + 1 ∧ Hid (u.heap[b5]? = some (.cells #[.int .i64 px, .int .i64 py, .int .i64 qx, .int .i64 qy, .bool b] 51 (0, 0))) ∧ Hid (GL w u v L' vs))
      case first =>
        by_cases hql : 0 < QL.length
        · have hql' : (0 : Int) < (QL.length : Int) := by omega
          have hsq := hide (unhide hst1 hql)
          clear hst1 hst0
          go_wp2_with (at_builtin; go_must (refine wpList_append_ll w6 rfl _ _ 24 rfl w.heap.size i2 (.slice none 0 0) 24 Tryt.underlying24 hi2 hz2 hs2 hb2 rfl _ L.length vs (by rfl) (unhide G2).1 (.slice aq QL.length cq) rfl 1 (by rfl) (by have := unhide hlen2; unfold maxLen; omega) (by have := unhide hlen2; omega) (unhide G2).2.2.size ?_); intro v9 w9 ho9 hg9 _; have G9 := hide ((unhide G).push (unhide hb6h) (Nat.le_refl _) (unhide hqo) ho9 hg9); have RW9 := hide (edge_grown (unhide G2).1 hg9 (unhide RW)); obtain ⟨a9, n9, c9, rfl⟩ := own_form3 ho9; clear ho9 hg9)
          go_meet
          exact ⟨_, _, hide (by rw [unhide hsq]; simp [List.append_assoc]), by simp, RW9, G9⟩
        · have hql' : ¬ (0 : Int) < (QL.length : Int) := by omega
          have hsq := hide (unhide hst0 hql)
          clear hst1 hst0
          go_wp2_with fail
          go_meet
          exact ⟨_, _, hide (by rw [unhide hsq]), by omega, RW, G2⟩
      case rest =>
      clear G2 RW hqo hst1 hst0 G hb6h
      obtain ⟨vs2, L2, hL2, hle, RW, G⟩ := hcut
      obtain ⟨a5', c5', e1⟩ := (unhide G).form
      subst e1
      have hlen3 := hide (show L2.length + 1 ≤ 5800000000002 by have h1 := unhide hlen2; omega)
      obtain ⟨k0, k1, k2, k3, k4⟩ := row5e (unhide RW)
      cases b with
      | false =>
        have hLn := hide (show L2 = L ++ SE by have h := unhide hL2; rw [if_neg (by decide), List.append_nil] at h; exact h)
        clear hL2
        go_wp2_with fail
        go_roundw
        case rel => exact ⟨_, rest, _, X, vs2, L2, hes2, rfl, hX, hide (by rw [unhide hLn, unhide hstep]), G⟩
        case measure => exact hsz
      | true =>
        have hLn := hide (show L2 ++ [jointW W (qx, qy)] = L ++ SE by have h := unhide hL2; rw [if_pos rfl] at h; exact h)
        clear hL2
        have ES := hide (implSquareAround_any qx qy W hpq hW)
        have hJ := hide (show jointW W (qx, qy) = [(qx - W / 2, qy - W / 2), (qx - W / 2 + W, qy - W / 2), (qx - W / 2 + W, qy - W / 2 + W), (qx - W / 2, qy - W / 2 + W)] from rfl)
        generalize jointW W (qx, qy) = JL at hLn hJ
        generalize qx - W / 2 = jx at ES hJ
        generalize qy - W / 2 = jy at ES hJ
        generalize jx + W = jx1 at ES hJ
        generalize jy + W = jy1 at ES hJ
        have EC := hide (implCornersOf_any jx jy jx1 jy1)
        go_wp2_with fail
        go_fit (unhide ES _)
        rintro r w7 ⟨rfl, hb7⟩
        replace G := hide ((unhide G).next hb7)
        clear hb7 k0 k1 k2 k3 k4 RW ES
        go_wp2_with fail
        go_fit (unhide EC _)
        rintro r w8 ⟨rfl, hr8, hb8⟩
        have hJ4 : JL.length = 4 := by rw [unhide hJ]; rfl
        have hqo8 := hide (show w8.ownsRow w7.heap.size 38 2 (.slice (some ⟨w7.heap.size + 1, 0, none⟩) 4 4) JL.length (ptsV JL) by
          rw [unhide hJ]
          exact ⟨rfl, .inr ⟨w7.heap.size + 1, 4, _, rfl, Nat.le_succ _, hr8, Nat.le_refl _, by decide, rfl, rfl⟩⟩)
        have hb8h := hide hb8
        have G8 := hide ((unhide G).next hb8)
        generalize (some (⟨w7.heap.size + 1, 0, none⟩ : Addr)) = a8 at hqo8 ⊢
        clear hb8 hr8 EC hJ
        go_wp2_with (at_builtin; go_must (refine wpList_append_ll w8 rfl _ _ 24 rfl w.heap.size i2 (.slice none 0 0) 24 Tryt.underlying24 hi2 hz2 hs2 hb2 rfl _ L2.length vs2 (by rfl) (unhide G8).1 (.slice a8 4 4) rfl 1 (by rfl) (by have := unhide hlen3; unfold maxLen; omega) (by have := unhide hlen3; omega) (unhide G8).2.2.size ?_); intro v9 w9 ho9 hg9 _; have G9 := hide ((unhide G).push (unhide hb8h) (Nat.le_refl _) (unhide hqo8) ho9 hg9); obtain ⟨a9, n9, c9, rfl⟩ := own_form3 ho9; clear ho9 hg9)
        go_roundw
        case rel => exact ⟨_, rest, _, X, _, _, hes2, rfl, hX, hide (by rw [unhide hLn, unhide hstep]), G9⟩
        case measure => exact hsz

set_option maxHeartbeats 16000000 in
set_option maxRecDepth 100000 in
/-- **The twin's StrokeOf.** -/
theorem twStroke_any (N : Nat) (ln : Nat → Nat) (pf : Nat → Nat → Pt) (hN : N ≤ 4300000000000) (hl : ∀ i, i < N → ln i ≤ 1048576) (hT : sumLn ln N ≤ 2900000000000) (la : Option Addr) (lc : Nat) (W : Int) (w : World) (HL0 : ∀ i, i < N → LTy w la i (ln i) (pf i)) (T0 : OfTy w la 32) :
    Calls Tryt.prog 8 #[.slice la N lc, .int .i64 W] w fun r w' => ∃ v, r = .returned v ∧ LinesV w' w.heap.size v (strokeA W N ln pf) ∧ Below w.heap.size w w' := by
  obtain ⟨i2, hi2, hz2, hs2, hb2⟩ := info_parts infoPts
  have HL := fun i hi => ltof (HL0 i hi)
  have hA : ∃ y : Bool, y = true ↔ AllPt N ln pf := by
    by_cases h : AllPt N ln pf
    · exact ⟨true, fun _ => h, fun _ => rfl⟩
    · exact ⟨false, fun h0 => (by cases h0), fun h1 => absurd h1 h⟩
  obtain ⟨y, hy⟩ := hA
  have EW := hide (implWidthOk_any W)
  have EA := hide (fun u (hu : Below w.heap.size w u) => implLinesOk_any N ln pf hN hl la lc y hy u (fun i hi => (HL i hi).next hu))
  have EY := hide (fun u (hu : Below w.heap.size w u) => show Calls Tryt.prog 74 #[.slice la N lc] u (fun r w' => ∃ X, r = .returned (.tuple #[.int .i64 0, .bool true, X]) ∧ Hid (X = nextV (edN ln pf N)) ∧ w' = u) by
    refine (twAll_any N lc ln pf la hN hl u (fun i hi => (HL i hi).next hu)).mono ?_
    rintro r w1 ⟨rfl, rfl⟩
    exact ⟨_, rfl, by rw [edgesN_map, lv_lapp]; exact nextV_lapp _, rfl⟩)
  have hno := hide (fun (h : inB W 1 2048 = false) => show strokeA W N ln pf = [] from if_neg (fun e => by rw [h] at e; cases e.1))
  have hbad := hide (fun (h : y = false) => show strokeA W N ln pf = [] from if_neg (fun e => by rw [hy.2 e.2] at h; cases h))
  have hyes := hide (fun (h : inB W 1 2048 = true) (ha : y = true) => show strokeA W N ln pf = (edN ln pf N).flatMap (stepE W) from (if_pos ⟨h, hy.1 ha⟩).trans (strokeN_edges W ln pf N))
  have hok := hide (fun (ha : y = true) => edN_ok (hy.1 ha))
  have hlen := hide (Nat.le_trans (edN_len ln pf N) hT)
  generalize strokeA W N ln pf = R at hno hbad hyes ⊢
  generalize edN ln pf N = es at EY hyes hok hlen
  have EC0 := hide (twCheck_any N lc ln pf la W hN hl hT w HL0 T0)
  go_enter Tryt.func8, Tryt.ntmps8
  go_wp2_with fail
  go_fit (unhide EC0)
  rintro r w0 ⟨rfl, hw0⟩
  replace hw0 := hw0.symm
  subst hw0
  clear EC0 HL0 T0
  clear HL hT hl hy
  go_upto_region 2 with fail
  have G := hide (GL.begin w w (Below.refl _ _))
  generalize w.alloc (.cells #[] 32) = V at G ⊢
  generalize (some (⟨w.heap.size, 0, none⟩ : Addr)) = a5 at G ⊢
  go_wp2_with fail
  go_fit (unhide EW _)
  rintro r w1 ⟨rfl, rfl⟩
  cases hw : inB W 1 2048 with
  | false =>
    have hR := hide (unhide hno hw)
    clear EA EY hyes hok hlen
    go_wp2_with fail
    go_ret
    exact ⟨_, rfl, by rw [unhide hR]; exact (unhide G).lines, (unhide G).2.2⟩
  | true =>
  have hW := inB_true.1 hw
  replace hyes := hide (unhide hyes hw)
  clear hno hw EW
  go_wp2_with fail
  go_fit (unhide EA _ (unhide G).2.2)
  rintro r w2 ⟨rfl, hb2'⟩
  replace G := hide ((unhide G).next hb2')
  clear hb2' EA
  cases hyv : y with
  | false =>
    have hR := hide (unhide hbad hyv)
    subst hyv
    clear EY hyes hok hlen
    go_wp2_with fail
    go_ret
    exact ⟨_, rfl, by rw [unhide hR]; exact (unhide G).lines, (unhide G).2.2⟩
  | true =>
  replace hyes := hide (unhide hyes hyv)
  replace hok := hide (unhide hok hyv)
  subst hyv
  clear hbad
  have hmk := mk_chan
  go_upto_region 5 with fail
  replace G := hide ((unhide G).next (al1_below _ (.chan 0 #[] false 0 0 false)))
  generalize w2.alloc (.chan 0 #[] false 0 0 false) = V3 at G ⊢
  generalize w2.heap.size = c3
  clear hmk
  go_wp2_with fail
  go_fit (unhide EY _ (unhide G).2.2)
  rintro r w4 ⟨X, rfl, hX, hw4⟩
  subst hw4
  clear EY
  go_wp2_with fail
  go_loopw [5, 23] (fun v q u => ∃ (done rest : List Edge) (a X : Value) (vs : List Value) (L : List (List Pt)), Hid (done ++ rest = es) ∧ q = .tuple #[a, .bool true, X] ∧ Hid (X = nextV rest) ∧ Hid (L = done.flatMap (stepE W)) ∧ Hid (GL w u v L vs)) (fun _ q _ => SizeOf.sizeOf q)
  case atStart => exact ⟨[], es, _, _, [], [], rfl, rfl, hX, rfl, G⟩
  case round =>
    clear G hX
    obtain ⟨done, rest, a, X, vs, L, hes, rfl, hX, hL, G⟩ := hrel
    obtain ⟨av, cv, e1⟩ := (unhide G).form
    subst e1
    cases rest with
    | nil =>
      have hX2 := unhide hX
      unfold nextV edgeV at hX2
      subst hX2
      have hR := hide (show L = R by rw [unhide hyes, ← unhide hes, List.append_nil]; exact unhide hL)
      clear hX hok hlen hyes
      go_wp2_with fail
      go_ret
      exact ⟨_, rfl, by rw [← unhide hR]; exact (unhide G).lines, (unhide G).2.2⟩
    | cons e rest =>
      have hX2 := unhide hX
      rw [nextV_cons] at hX2
      subst hX2
      clear hX
      have hsz := size_next a (.tuple #[.agg #[.int .i64 e.1.1, .int .i64 e.1.2, .int .i64 e.2.1.1, .int .i64 e.2.1.2, .bool e.2.2], .bool true, nextV rest])
      obtain ⟨X, hX⟩ : ∃ X, Hid (X = nextV rest) := ⟨_, rfl⟩
      rw [← unhide hX] at hsz ⊢
      have hmem : e ∈ es := by rw [← unhide hes]; simp
      obtain ⟨hpo, hpq⟩ := unhide hok e hmem
      have hes2 := hide (show (done ++ [e]) ++ rest = es by rw [← unhide hes]; simp)
      have hlen2 := hide (show L.length + 2 ≤ 5800000000002 by
        have h1 := flatE_len W done
        have h2 := congrArg List.length (unhide hes2)
        have h3 := unhide hlen
        simp only [List.length_append, List.length_singleton] at h2
        rw [unhide hL]
        omega)
      have hstep := hide (show (done ++ [e]).flatMap (stepE W) = L ++ stepE W e by rw [List.flatMap_append, ← unhide hL]; simp)
      obtain ⟨⟨px, py⟩, ⟨qx, qy⟩, b⟩ := e
      dsimp only at hpo hpq hsz ⊢
      obtain ⟨QL, hQL⟩ : ∃ z, Hid (quadW W (px, py) (qx, qy) = z) := ⟨_, rfl⟩
      have EQ := hide (fun u => show Calls Tryt.prog 26 #[.agg #[.int .i64 px, .int .i64 py], .agg #[.int .i64 qx, .int .i64 qy], .int .i64 W] u (fun r w' => ∃ v, r = .returned v ∧ w'.ownsRow u.heap.size 38 2 v QL.length (ptsV QL) ∧ Below u.heap.size u w') by
        have h := implQuadOf_any px py qx qy W (lenC (px, py) (qx, qy)) (lenC_is (px, py) (qx, qy)) u
        rw [show quadC px py qx qy W (lenC (px, py) (qx, qy)) = quadW W (px, py) (qx, qy) from rfl, unhide hQL] at h
        exact h)
      have hst1 := hide (fun (h : 0 < QL.length) => show stepE W ((px, py), (qx, qy), b) = [QL] ++ (if b = true then [jointW W (qx, qy)] else []) by
        unfold stepE
        dsimp only
        rw [unhide hQL, if_pos h])
      have hst0 := hide (fun (h : ¬ 0 < QL.length) => show stepE W ((px, py), (qx, qy), b) = (if b = true then [jointW W (qx, qy)] else []) by
        unfold stepE
        dsimp only
        rw [unhide hQL, if_neg h, List.nil_append])
      generalize stepE W ((px, py), (qx, qy), b) = SE at hstep hst1 hst0
      clear hQL hmem hok hes hyes hlen
      go_upto_region 9 with fail
      have RW := hide (new_row wr (.cells #[.int .i64 px, .int .i64 py, .int .i64 qx, .int .i64 qy, .bool b] 51))
      replace G := hide ((unhide G).next (al1_below wr (.cells #[.int .i64 px, .int .i64 py, .int .i64 qx, .int .i64 qy, .bool b] 51)))
      generalize wr.alloc (.cells #[.int .i64 px, .int .i64 py, .int .i64 qx, .int .i64 qy, .bool b] 51) = V5 at RW G ⊢
      generalize wr.heap.size = b5 at RW ⊢
      obtain ⟨k0, k1, k2, k3, k4⟩ := row5e (unhide RW)
      go_wp2_with fail
      go_fit (unhide EQ _)
      rintro r w6 ⟨qv, rfl, hqo, hb6⟩
      obtain ⟨aq, cq, eq⟩ := own_form hqo
      subst eq
      replace RW := hide (row_next hb6 (unhide RW))
      have G2 := hide ((unhide G).next hb6)
      have hb6h := hide hb6
      replace hqo := hide hqo
      clear hb6 k0 k1 k2 k3 k4 EQ
      go_upto_if 34 with fail
      go_cut [5] from 24 to 48 (fun v u => ∃ (vs : List Value) (L' : List (List Pt)), Hid (L' ++ (if b = true then [jointW W (qx, qy)] else []) = L ++ SE) ∧ L'.length ≤ L.length + 1 ∧ Hid (u.heap[b5]? = some (.cells #[.int .i64 px, .int .i64 py, .int .i64 qx, .int .i64 qy, .bool b] 51 (0, 0))) ∧ Hid (GL w u v L' vs))
      case first =>
        by_cases hql : 0 < QL.length
        · have hql' : (0 : Int) < (QL.length : Int) := by omega
          have hsq := hide (unhide hst1 hql)
          clear hst1 hst0
          go_wp2_with (at_builtin; go_must (refine wpList_append_ll w6 rfl _ _ 24 rfl w.heap.size i2 (.slice none 0 0) 24 Tryt.underlying24 hi2 hz2 hs2 hb2 rfl _ L.length vs (by rfl) (unhide G2).1 (.slice aq QL.length cq) rfl 1 (by rfl) (by have := unhide hlen2; unfold maxLen; omega) (by have := unhide hlen2; omega) (unhide G2).2.2.size ?_); intro v9 w9 ho9 hg9 _; have G9 := hide ((unhide G).push (unhide hb6h) (Nat.le_refl _) (unhide hqo) ho9 hg9); have RW9 := hide (edge_grown (unhide G2).1 hg9 (unhide RW)); obtain ⟨a9, n9, c9, rfl⟩ := own_form3 ho9; clear ho9 hg9)
          go_meet
          exact ⟨_, _, hide (by rw [unhide hsq]; simp [List.append_assoc]), by simp, RW9, G9⟩
        · have hql' : ¬ (0 : Int) < (QL.length : Int) := by omega
          have hsq := hide (unhide hst0 hql)
          clear hst1 hst0
          go_wp2_with fail
          go_meet
          exact ⟨_, _, hide (by rw [unhide hsq]), by omega, RW, G2⟩
      case rest =>
      clear G2 RW hqo hst1 hst0 G hb6h
      obtain ⟨vs2, L2, hL2, hle, RW, G⟩ := hcut
      obtain ⟨a5', c5', e1⟩ := (unhide G).form
      subst e1
      have hlen3 := hide (show L2.length + 1 ≤ 5800000000002 by have h1 := unhide hlen2; omega)
      obtain ⟨k0, k1, k2, k3, k4⟩ := row5e (unhide RW)
      cases b with
      | false =>
        have hLn := hide (show L2 = L ++ SE by have h := unhide hL2; rw [if_neg (by decide), List.append_nil] at h; exact h)
        clear hL2
        go_wp2_with fail
        go_roundw
        case rel => exact ⟨_, rest, _, X, vs2, L2, hes2, rfl, hX, hide (by rw [unhide hLn, unhide hstep]), G⟩
        case measure => exact hsz
      | true =>
        have hLn := hide (show L2 ++ [jointW W (qx, qy)] = L ++ SE by have h := unhide hL2; rw [if_pos rfl] at h; exact h)
        clear hL2
        have ES := hide (implSquareAround_any qx qy W hpq hW)
        have hJ := hide (show jointW W (qx, qy) = [(qx - W / 2, qy - W / 2), (qx - W / 2 + W, qy - W / 2), (qx - W / 2 + W, qy - W / 2 + W), (qx - W / 2, qy - W / 2 + W)] from rfl)
        generalize jointW W (qx, qy) = JL at hLn hJ
        generalize qx - W / 2 = jx at ES hJ
        generalize qy - W / 2 = jy at ES hJ
        generalize jx + W = jx1 at ES hJ
        generalize jy + W = jy1 at ES hJ
        have EC := hide (implCornersOf_any jx jy jx1 jy1)
        go_wp2_with fail
        go_fit (unhide ES _)
        rintro r w7 ⟨rfl, hb7⟩
        replace G := hide ((unhide G).next hb7)
        clear hb7 k0 k1 k2 k3 k4 RW ES
        go_wp2_with fail
        go_fit (unhide EC _)
        rintro r w8 ⟨rfl, hr8, hb8⟩
        have hJ4 : JL.length = 4 := by rw [unhide hJ]; rfl
        have hqo8 := hide (show w8.ownsRow w7.heap.size 38 2 (.slice (some ⟨w7.heap.size + 1, 0, none⟩) 4 4) JL.length (ptsV JL) by
          rw [unhide hJ]
          exact ⟨rfl, .inr ⟨w7.heap.size + 1, 4, _, rfl, Nat.le_succ _, hr8, Nat.le_refl _, by decide, rfl, rfl⟩⟩)
        have hb8h := hide hb8
        have G8 := hide ((unhide G).next hb8)
        generalize (some (⟨w7.heap.size + 1, 0, none⟩ : Addr)) = a8 at hqo8 ⊢
        clear hb8 hr8 EC hJ
        go_wp2_with (at_builtin; go_must (refine wpList_append_ll w8 rfl _ _ 24 rfl w.heap.size i2 (.slice none 0 0) 24 Tryt.underlying24 hi2 hz2 hs2 hb2 rfl _ L2.length vs2 (by rfl) (unhide G8).1 (.slice a8 4 4) rfl 1 (by rfl) (by have := unhide hlen3; unfold maxLen; omega) (by have := unhide hlen3; omega) (unhide G8).2.2.size ?_); intro v9 w9 ho9 hg9 _; have G9 := hide ((unhide G).push (unhide hb8h) (Nat.le_refl _) (unhide hqo8) ho9 hg9); obtain ⟨a9, n9, c9, rfl⟩ := own_form3 ho9; clear ho9 hg9)
        go_roundw
        case rel => exact ⟨_, rest, _, X, _, _, hes2, rfl, hX, hide (by rw [unhide hLn, unhide hstep]), G9⟩
        case measure => exact hsz
end Go.Proofs.YtmofjlonmggpmaaTw

/-
  The specification's StrokeOf. (By stroket.py.)
-/
namespace Go.Proofs.YtmofjlonmggpmaaTw
open Go.RowKit
set_option linter.unusedVariables false

set_option maxHeartbeats 4000000 in
set_option maxRecDepth 100000 in
theorem specJoint_any (x y W : Int) (hp : pointOkB x y = true) (hW : 1 ≤ W ∧ W ≤ 2048) (w : World) :
    Calls Tryt.prog 21 #[.agg #[.int .i64 x, .int .i64 y], .int .i64 W] w fun r w' => ∃ v, r = .returned v ∧ w'.ownsRow w.heap.size 38 2 v (jointW W (x, y)).length (ptsV (jointW W (x, y))) ∧ Below w.heap.size w w' := by
  obtain ⟨⟨a0, b0⟩, c0, d0⟩ := point_bd hp
  have e1 : W.tdiv 2 = W / 2 := by rw [Int.tdiv_eq_ediv_of_nonneg (by omega)]
  have h0 : 0 ≤ W / 2 ∧ W / 2 ≤ 1024 := by omega
  have hJ : jointW W (x, y) = [(x - W / 2, y - W / 2), (x - W / 2 + W, y - W / 2), (x - W / 2 + W, y - W / 2 + W), (x - W / 2, y - W / 2 + W)] := rfl
  rw [hJ]
  generalize W / 2 = h at e1 h0 ⊢
  have u0 : IntKind.i64.wrap h = h := IntWalk.i64_in _ (by omega)
  have u1 : IntKind.i64.wrap (x - h) = x - h := IntWalk.i64_in _ (by omega)
  have u2 : IntKind.i64.wrap (y - h) = y - h := IntWalk.i64_in _ (by omega)
  have u3 : IntKind.i64.wrap (x - h + W) = x - h + W := IntWalk.i64_in _ (by omega)
  have u4 : IntKind.i64.wrap (y - h + W) = y - h + W := IntWalk.i64_in _ (by omega)
  clear hp hJ
  go_enter Tryt.func21, Try.ntmps21
  go_upto_region 1 with fail
  have R := hide (new_row w (.cells #[.int .i64 x, .int .i64 y] 38))
  have HB := hide (al1_below w (.cells #[.int .i64 x, .int .i64 y] 38))
  generalize w.alloc (.cells #[.int .i64 x, .int .i64 y] 38) = V at R HB ⊢
  obtain ⟨b2, hb2⟩ : ∃ b, Hid (b = w.heap.size) := ⟨_, rfl⟩
  rw [← unhide hb2] at R ⊢
  obtain ⟨q0, q1⟩ := row2 (unhide R)
  go_wp2_with fail
  go_ret
  exact ⟨_, rfl, World.ownsRow_lit (base := w.heap.size) (e := 38) (size := 2) V #[.int .i64 (x - h), .int .i64 (y - h), .int .i64 (x - h + W), .int .i64 (y - h), .int .i64 (x - h + W), .int .i64 (y - h + W), .int .i64 (x - h), .int .i64 (y - h + W)] 4 (unhide HB).size (by decide) rfl, below_new _ (unhide HB) (Nat.le_refl _)⟩

set_option maxHeartbeats 16000000 in
set_option maxRecDepth 100000 in
theorem specStrokeOf_any (N : Nat) (ln : Nat → Nat) (pf : Nat → Nat → Pt) (hN : N ≤ 4300000000000) (hl : ∀ i, i < N → ln i ≤ 1048576) (hT : sumLn ln N ≤ 2900000000000) (la : Option Addr) (lc : Nat) (W : Int) (w : World) (HL : ∀ i, i < N → LArg w la i (ln i) (pf i)) :
    Calls Tryt.prog 6 #[.slice la N lc, .int .i64 W] w fun r w' => ∃ v, r = .returned v ∧ LinesV w' w.heap.size v (strokeA W N ln pf) ∧ Below w.heap.size w w' := by
  obtain ⟨i2, hi2, hz2, hs2, hb2⟩ := info_parts infoPts
  have EW := hide (l01In_any W 1 2048)
  have hno := hide (fun (h : inB W 1 2048 = false) => show strokeA W N ln pf = [] from if_neg (fun e => by rw [h] at e; cases e.1))
  have hbad := hide (fun (i j : Nat) (hi : i < N) (hj : j < ln i) (h : pointOkB (pf i j).1 (pf i j).2 = false) => show strokeA W N ln pf = [] from if_neg (fun e => by have := e.2 i hi j hj; rw [h] at this; cases this))
  have hyes := hide (fun (h : inB W 1 2048 = true) (ha : AllPt N ln pf) => show strokeA W N ln pf = strokeN W ln pf N from if_pos ⟨h, ha⟩)
  generalize strokeA W N ln pf = R at hno hbad hyes ⊢
  replace HL := hide HL
  have hT2 := hide (fun k (hk : k < N) m (hm : m ≤ ln k) => show (strokeN W ln pf k).length + (strokeL W (pf k) (ln k) m).length + 2 ≤ 5800000000002 by
    have h1 := strokeN_len W ln pf k
    have h2 := strokeL_len W (pf k) (ln k) m
    have h3 := sumLn_le (ln := ln) (show k + 1 ≤ N by omega)
    simp only [sumLn] at h3
    omega)
  clear hT
  go_enter Tryt.func6, Try.ntmps6
  go_upto_region 2 with fail
  have G := hide (GL.begin w w (Below.refl _ _))
  generalize w.alloc (.cells #[] 32) = V at G ⊢
  generalize (some (⟨w.heap.size, 0, none⟩ : Addr)) = a5 at G ⊢
  go_wp2_with fail
  go_fit (unhide EW _)
  rintro r w1 ⟨rfl, rfl⟩
  cases hw : inB W 1 2048 with
  | false =>
    have hR := hide (unhide hno hw)
    go_wp2_with fail
    go_ret
    exact ⟨_, rfl, by rw [unhide hR]; exact (unhide G).lines, (unhide G).2.2⟩
  | true =>
  have hW := inB_true.1 hw
  replace hyes := hide (unhide hyes hw)
  clear hno hw EW
  go_wp2_with fail
  go_loopw [5, 6] (fun v i u => ∃ (k : Nat) (vs : List Value) (L : List (List Pt)), k ≤ N ∧ i = .int .i64 (k : Int) ∧ Hid (L = strokeN W ln pf k) ∧ Hid (GL w u v L vs) ∧ Hid (∀ a, a < k → ∀ j, j < ln a → pointOkB (pf a j).1 (pf a j).2 = true)) (fun _ i _ => N - (intOf i).toNat)
  case atStart => exact ⟨0, [], [], Nat.zero_le _, rfl, rfl, G, fun a h => absurd h (by omega)⟩
  case round =>
    clear G
    obtain ⟨k, vs, LK, hk, rfl, hLK, G, OK⟩ := hrel
    obtain ⟨av, cv, e1⟩ := (unhide G).form
    subst e1
    by_cases hlt : k < N
    · have hlt' : (k : Int) < (N : Int) := by omega
      obtain ⟨s, o, x, c, hla, hc1, hc2⟩ := unhide HL k hlt
      subst hla
      have HH := hide (fun u (hu : Below w.heap.size w u) => show u.cell? ⟨s, o + k, none⟩ = some (.slice x (ln k) c) ∧ ∀ j, j < ln k → PtArg u x j (pf k j) from ⟨kc hu hc1, fun j hj => (hc2 j hj).next hu⟩)
      clear hc1 hc2
      have hlk := hl k hlt
      have hTk := hide (unhide hT2 k hlt)
      have hbk := hide (fun j hj h => unhide hbad k j hlt hj h)
      have hnext := hide (show strokeN W ln pf (k + 1) = LK ++ strokeL W (pf k) (ln k) (ln k) by rw [unhide hLK]; rfl)
      have hOKn := hide (fun (h : ∀ j, j < ln k → pointOkB (pf k j).1 (pf k j).2 = true) a (ha : a < k + 1) => show ∀ j, j < ln a → pointOkB (pf a j).1 (pf a j).2 = true by
        by_cases e : a = k
        · subst e; exact h
        · exact unhide OK a (by omega))
      rw [← unhide hLK] at hTk
      obtain ⟨n, hn⟩ : ∃ z, Hid (ln k = z) := ⟨_, rfl⟩
      obtain ⟨f, hf⟩ : ∃ z, Hid (pf k = z) := ⟨_, rfl⟩
      rw [unhide hn] at HH hlk hTk hbk hnext hOKn
      rw [unhide hf] at HH hTk hbk hnext hOKn
      clear hn hf hLK OK
      have hc0 := (unhide HH _ (unhide G).2.2).1
      go_upto_region 8 with fail
      go_loopw [5, 7] (fun v i u => ∃ (m : Nat) (vs : List Value) (L : List (List Pt)), m ≤ n ∧ i = .int .i64 (m : Int) ∧ Hid (L = LK ++ strokeL W f n m) ∧ Hid (GL w u v L vs) ∧ Hid (∀ j, j < m → pointOkB (f j).1 (f j).2 = true)) (fun _ i _ => n - (intOf i).toNat)
      case atStart => exact ⟨0, vs, LK, Nat.zero_le _, rfl, (List.append_nil _).symm, G, fun a h => absurd h (by omega)⟩
      case round =>
        clear G hc0
        obtain ⟨m, vs, L, hm, rfl, hL, G, OK⟩ := hrel
        obtain ⟨av, cv, e1⟩ := (unhide G).form
        subst e1
        have hc0 := (unhide HH _ (unhide G).2.2).1
        by_cases hlm : m < n
        · have hlm' : (m : Int) < (n : Int) := by omega
          have hlen := hide (show L.length + 2 ≤ 5800000000002 by rw [unhide hL, List.length_append]; exact unhide hTk m hm)
          obtain ⟨s2, o2, hx2, hq0, hq1⟩ := (unhide HH _ (unhide G).2.2).2 m hlm
          subst hx2
          obtain ⟨qx, hqx⟩ : ∃ z, Hid ((f m).1 = z) := ⟨_, rfl⟩
          obtain ⟨qy, hqy⟩ : ∃ z, Hid ((f m).2 = z) := ⟨_, rfl⟩
          rw [unhide hqx] at hq0
          rw [unhide hqy] at hq1
          go_wp2_with fail
          go_fit (specPointOk_any qx qy _)
          rintro r w3 ⟨rfl, hb⟩
          replace G := hide ((unhide G).next hb)
          clear hb hc0 hq0 hq1
          cases hok : pointOkB qx qy with
          | false =>
            have hR := hide (unhide hbk m hlm (by rw [unhide hqx, unhide hqy]; exact hok))
            have hE := hide (GL.begin w w3 (unhide G).2.2)
            go_wp2_with fail
            go_ret
            exact ⟨_, rfl, by rw [unhide hR]; exact (unhide hE).lines, (unhide hE).2.2⟩
          | true =>
          have OK2 := hide (fun j (hj : j < m + 1) => show pointOkB (f j).1 (f j).2 = true by
            by_cases e : j = m
            · subst e; rw [unhide hqx, unhide hqy]; exact hok
            · exact unhide OK j (by omega))
          clear OK
          replace hok := hide hok
          go_upto_if 40 with fail
          go_cut [5] (fun v u => ∃ (vs : List Value) (L' : List (List Pt)), Hid (L' = LK ++ strokeL W f n m ++ stepQ W f m) ∧ Hid (GL w u v L' vs))
          case first =>
            by_cases h0 : m = 0
            · have hng : ¬ (0 : Int) < (m : Int) := by omega
              have hs0 := hide (show stepQ W f m = [] from if_neg (fun e => by omega))
              clear h0
              go_wp2_with fail
              go_meet
              exact ⟨vs, L, by rw [unhide hs0, List.append_nil]; exact hL, G⟩
            · have hgt : (0 : Int) < (m : Int) := by omega
              obtain ⟨px, hpx⟩ : ∃ z, Hid ((f (m - 1)).1 = z) := ⟨_, rfl⟩
              obtain ⟨py, hpy⟩ : ∃ z, Hid ((f (m - 1)).2 = z) := ⟨_, rfl⟩
              have hw1 : IntKind.i64.wrap ((m : Int) - 1) = ((m - 1 : Nat) : Int) := by rw [IntWalk.i64_in _ (by omega)]; omega
              have hlm1 : ((m - 1 : Nat) : Int) < (n : Int) := by omega
              obtain ⟨QL, hQL⟩ : ∃ z, Hid (quadW W (f (m - 1)) (f m) = z) := ⟨_, rfl⟩
              have EQ := hide (fun u => show Calls Tryt.prog 20 #[.agg #[.int .i64 px, .int .i64 py], .agg #[.int .i64 qx, .int .i64 qy], .int .i64 W] u (fun r w' => ∃ v, r = .returned v ∧ w'.ownsRow u.heap.size 38 2 v QL.length (ptsV QL) ∧ Below u.heap.size u w') by
                have h := specQuadOf_any (f (m - 1)).1 (f (m - 1)).2 (f m).1 (f m).2 W (lenC (f (m - 1)) (f m)) (lenC_is _ _) u
                rw [show quadC (f (m - 1)).1 (f (m - 1)).2 (f m).1 (f m).2 W (lenC (f (m - 1)) (f m)) = quadW W (f (m - 1)) (f m) from rfl, unhide hQL, unhide hpx, unhide hpy, unhide hqx, unhide hqy] at h
                exact h)
              have hqy0 := hide (fun (h : 0 < QL.length) => show stepQ W f m = [QL] by unfold stepQ; rw [unhide hQL, if_pos ⟨by omega, h⟩])
              have hqn0 := hide (fun (h : ¬ 0 < QL.length) => show stepQ W f m = [] by unfold stepQ; rw [unhide hQL, if_neg (fun e => h e.2)])
              have hS13 := hide (fun u (hu : Below w3.heap.size w3 u) => show Hid (Below w3.heap.size w3 u) ∧ u.cell? ⟨s, o + k, none⟩ = some (.slice (some ⟨s2, o2, none⟩) n c) ∧ u.cell? ⟨s2, o2 + (m - 1) * 2, none⟩ = some (.int .i64 px) ∧ u.cell? ⟨s2, o2 + (m - 1) * 2 + 1, none⟩ = some (.int .i64 py) ∧ u.cell? ⟨s2, o2 + m * 2, none⟩ = some (.int .i64 qx) ∧ u.cell? ⟨s2, o2 + m * 2 + 1, none⟩ = some (.int .i64 qy) by
                obtain ⟨h1, h2⟩ := unhide HH u (below_two (unhide G).2.2 hu)
                obtain ⟨_, _, e1, p0, p1⟩ := h2 (m - 1) (by omega)
                cases e1
                obtain ⟨_, _, e2, p2, p3⟩ := h2 m hlm
                cases e2
                exact ⟨hu, h1, by rw [← unhide hpx]; exact p0, by rw [← unhide hpy]; exact p1, by rw [← unhide hqx]; exact p2, by rw [← unhide hqy]; exact p3⟩)
              clear hpx hpy hQL h0
              go_upto_region 13 with fail
              refine wp_region_held_drew (S := (fun u => Hid (Below w3.heap.size w3 u) ∧ u.cell? ⟨s, o + k, none⟩ = some (.slice (some ⟨s2, o2, none⟩) n c) ∧ u.cell? ⟨s2, o2 + (m - 1) * 2, none⟩ = some (.int .i64 px) ∧ u.cell? ⟨s2, o2 + (m - 1) * 2 + 1, none⟩ = some (.int .i64 py) ∧ u.cell? ⟨s2, o2 + m * 2, none⟩ = some (.int .i64 qx) ∧ u.cell? ⟨s2, o2 + m * 2 + 1, none⟩ = some (.int .i64 qy))) (by kernel_rfl) ?_ (fun hHeld => ?_)
              · exact unhide hS13 _ (Below.refl _ _).drew
              refine wpAnyH_take (i := 0) (oi := { dst := some 41, op := Op.move (Operand.tmp 0), type := 24, pos := "l08_stroke.go:48", after := #[], guard := none }) (v := ?_) rfl (by kernel_rfl) (by kernel_rfl) (by kernel_rfl) (fun _ _ _ h => h) (Or.inl ⟨by rfl, ?_⟩) (by assumption) ?_
              rotate_left
              · intro w hSw; (try dsimp only at hSw); go_simp <;> with_reducible rfl
              try simp only [Act.put, List.setIfInBounds_toArray, List.set_cons_zero, List.set_cons_succ]
              refine wpAnyH_take (i := 1) (oi := { dst := some 42, op := Op.move (Operand.tmp 6), type := 3, pos := "l08_stroke.go:48", after := #[], guard := none }) (v := ?_) rfl (by kernel_rfl) (by kernel_rfl) (by kernel_rfl) (fun _ _ _ h => h) (Or.inl ⟨by rfl, ?_⟩) (by assumption) ?_
              rotate_left
              · intro w hSw; (try dsimp only at hSw); go_simp <;> with_reducible rfl
              try simp only [Act.put, List.setIfInBounds_toArray, List.set_cons_zero, List.set_cons_succ]
              refine wpAnyH_take (i := 2) (oi := { dst := some 43, op := Op.indexAddr 24 (Operand.tmp 41) (Operand.tmp 42), type := 0, pos := "l08_stroke.go:48", after := #[{ on := 0, ground := Ground.data }, { on := 1, ground := Ground.data }], guard := none }) (v := ?_) rfl (by kernel_rfl) (by kernel_rfl) (by kernel_rfl) (fun _ _ _ h => h) (Or.inl ⟨by rfl, ?_⟩) (by assumption) ?_
              rotate_left
              · intro w hSw; (try dsimp only at hSw); go_simp <;> with_reducible rfl
              try simp only [Act.put, List.setIfInBounds_toArray, List.set_cons_zero, List.set_cons_succ]
              refine wpAnyH_take (i := 3) (oi := { dst := some 44, op := Op.load 32 (Operand.tmp 43), type := 32, pos := "l08_stroke.go:48", after := #[{ on := 2, ground := Ground.data }], guard := none }) (v := ?_) rfl (by kernel_rfl) (by kernel_rfl) (by kernel_rfl) (fun _ _ _ h => h) (Or.inl ⟨by rfl, ?_⟩) (by assumption) ?_
              rotate_left
              · intro w hSw; (try dsimp only at hSw); go_simp <;> with_reducible rfl
              try simp only [Act.put, List.setIfInBounds_toArray, List.set_cons_zero, List.set_cons_succ]
              refine wpAnyH_take (i := 4) (oi := { dst := some 45, op := Op.move (Operand.tmp 7), type := 3, pos := "l08_stroke.go:48", after := #[], guard := none }) (v := ?_) rfl (by kernel_rfl) (by kernel_rfl) (by kernel_rfl) (fun _ _ _ h => h) (Or.inl ⟨by rfl, ?_⟩) (by assumption) ?_
              rotate_left
              · intro w hSw; (try dsimp only at hSw); go_simp <;> with_reducible rfl
              try simp only [Act.put, List.setIfInBounds_toArray, List.set_cons_zero, List.set_cons_succ]
              refine wpAnyH_take (i := 5) (oi := { dst := some 46, op := Op.binOp BinOp.sub 3 (Operand.tmp 45) (Operand.const (Value.int IntKind.i64 1)) 3, type := 3, pos := "l08_stroke.go:48", after := #[{ on := 4, ground := Ground.data }], guard := none }) (v := ?_) rfl (by kernel_rfl) (by kernel_rfl) (by kernel_rfl) (fun _ _ _ h => h) (Or.inl ⟨by rfl, ?_⟩) (by assumption) ?_
              rotate_left
              · intro w hSw; (try dsimp only at hSw); go_simp <;> with_reducible rfl
              try simp only [Act.put, List.setIfInBounds_toArray, List.set_cons_zero, List.set_cons_succ]
              refine wpAnyH_take (i := 6) (oi := { dst := some 47, op := Op.indexAddr 32 (Operand.tmp 44) (Operand.tmp 46), type := 0, pos := "l08_stroke.go:48", after := #[{ on := 3, ground := Ground.data }, { on := 5, ground := Ground.data }], guard := none }) (v := ?_) rfl (by kernel_rfl) (by kernel_rfl) (by kernel_rfl) (fun _ _ _ h => h) (Or.inl ⟨by rfl, ?_⟩) (by assumption) ?_
              rotate_left
              · intro w hSw; (try dsimp only at hSw); go_simp <;> with_reducible rfl
              try simp only [Act.put, List.setIfInBounds_toArray, List.set_cons_zero, List.set_cons_succ]
              refine wpAnyH_take (i := 7) (oi := { dst := some 48, op := Op.load 38 (Operand.tmp 47), type := 38, pos := "l08_stroke.go:48", after := #[{ on := 6, ground := Ground.data }], guard := none }) (v := ?_) rfl (by kernel_rfl) (by kernel_rfl) (by kernel_rfl) (fun _ _ _ h => h) (Or.inl ⟨by rfl, ?_⟩) (by assumption) ?_
              rotate_left
              · intro w hSw; (try dsimp only at hSw); go_simp <;> with_reducible rfl
              try simp only [Act.put, List.setIfInBounds_toArray, List.set_cons_zero, List.set_cons_succ]
              refine wpAnyH_take (i := 8) (oi := { dst := some 49, op := Op.move (Operand.tmp 0), type := 24, pos := "l08_stroke.go:48", after := #[], guard := none }) (v := ?_) rfl (by kernel_rfl) (by kernel_rfl) (by kernel_rfl) (fun _ _ _ h => h) (Or.inl ⟨by rfl, ?_⟩) (by assumption) ?_
              rotate_left
              · intro w hSw; (try dsimp only at hSw); go_simp <;> with_reducible rfl
              try simp only [Act.put, List.setIfInBounds_toArray, List.set_cons_zero, List.set_cons_succ]
              refine wpAnyH_take (i := 9) (oi := { dst := some 50, op := Op.move (Operand.tmp 6), type := 3, pos := "l08_stroke.go:48", after := #[], guard := none }) (v := ?_) rfl (by kernel_rfl) (by kernel_rfl) (by kernel_rfl) (fun _ _ _ h => h) (Or.inl ⟨by rfl, ?_⟩) (by assumption) ?_
              rotate_left
              · intro w hSw; (try dsimp only at hSw); go_simp <;> with_reducible rfl
              try simp only [Act.put, List.setIfInBounds_toArray, List.set_cons_zero, List.set_cons_succ]
              refine wpAnyH_take (i := 10) (oi := { dst := some 51, op := Op.indexAddr 24 (Operand.tmp 49) (Operand.tmp 50), type := 0, pos := "l08_stroke.go:48", after := #[{ on := 8, ground := Ground.data }, { on := 9, ground := Ground.data }], guard := none }) (v := ?_) rfl (by kernel_rfl) (by kernel_rfl) (by kernel_rfl) (fun _ _ _ h => h) (Or.inl ⟨by rfl, ?_⟩) (by assumption) ?_
              rotate_left
              · intro w hSw; (try dsimp only at hSw); go_simp <;> with_reducible rfl
              try simp only [Act.put, List.setIfInBounds_toArray, List.set_cons_zero, List.set_cons_succ]
              refine wpAnyH_take (i := 11) (oi := { dst := some 52, op := Op.load 32 (Operand.tmp 51), type := 32, pos := "l08_stroke.go:48", after := #[{ on := 10, ground := Ground.data }], guard := none }) (v := ?_) rfl (by kernel_rfl) (by kernel_rfl) (by kernel_rfl) (fun _ _ _ h => h) (Or.inl ⟨by rfl, ?_⟩) (by assumption) ?_
              rotate_left
              · intro w hSw; (try dsimp only at hSw); go_simp <;> with_reducible rfl
              try simp only [Act.put, List.setIfInBounds_toArray, List.set_cons_zero, List.set_cons_succ]
              refine wpAnyH_take (i := 12) (oi := { dst := some 53, op := Op.move (Operand.tmp 7), type := 3, pos := "l08_stroke.go:48", after := #[], guard := none }) (v := ?_) rfl (by kernel_rfl) (by kernel_rfl) (by kernel_rfl) (fun _ _ _ h => h) (Or.inl ⟨by rfl, ?_⟩) (by assumption) ?_
              rotate_left
              · intro w hSw; (try dsimp only at hSw); go_simp <;> with_reducible rfl
              try simp only [Act.put, List.setIfInBounds_toArray, List.set_cons_zero, List.set_cons_succ]
              refine wpAnyH_take (i := 13) (oi := { dst := some 54, op := Op.indexAddr 32 (Operand.tmp 52) (Operand.tmp 53), type := 0, pos := "l08_stroke.go:48", after := #[{ on := 11, ground := Ground.data }, { on := 12, ground := Ground.data }], guard := none }) (v := ?_) rfl (by kernel_rfl) (by kernel_rfl) (by kernel_rfl) (fun _ _ _ h => h) (Or.inl ⟨by rfl, ?_⟩) (by assumption) ?_
              rotate_left
              · intro w hSw; (try dsimp only at hSw); go_simp <;> with_reducible rfl
              try simp only [Act.put, List.setIfInBounds_toArray, List.set_cons_zero, List.set_cons_succ]
              refine wpAnyH_take (i := 14) (oi := { dst := some 55, op := Op.load 38 (Operand.tmp 54), type := 38, pos := "l08_stroke.go:48", after := #[{ on := 13, ground := Ground.data }], guard := none }) (v := ?_) rfl (by kernel_rfl) (by kernel_rfl) (by kernel_rfl) (fun _ _ _ h => h) (Or.inl ⟨by rfl, ?_⟩) (by assumption) ?_
              rotate_left
              · intro w hSw; (try dsimp only at hSw); go_simp <;> with_reducible rfl
              try simp only [Act.put, List.setIfInBounds_toArray, List.set_cons_zero, List.set_cons_succ]
              refine wpAnyH_take (i := 15) (oi := { dst := some 56, op := Op.move (Operand.tmp 1), type := 3, pos := "l08_stroke.go:48", after := #[], guard := none }) (v := ?_) rfl (by kernel_rfl) (by kernel_rfl) (by kernel_rfl) (fun _ _ _ h => h) (Or.inl ⟨by rfl, ?_⟩) (by assumption) ?_
              rotate_left
              · intro w hSw; (try dsimp only at hSw); go_simp <;> with_reducible rfl
              try simp only [Act.put, List.setIfInBounds_toArray, List.set_cons_zero, List.set_cons_succ]
              refine wpAnyH_ready (rs := [16]) (by kernel_rfl) (by simp) ?_
              refine AllReadyH.cons (o := { dst := some 57, op := Op.call { callee := Callee.value (Operand.func 20), args := #[Operand.tmp 48, Operand.tmp 55, Operand.tmp 56], argTypes := #[38, 38, 3] }, type := 32, pos := "l08_stroke.go:48", after := #[{ on := 7, ground := Ground.data }, { on := 14, ground := Ground.data }, { on := 15, ground := Ground.data }], guard := none }) rfl (fun K hK => ?_) AllReadyH.nil
              go_simp
              (first | (go_at_call 20; go_fit (unhide EQ _); rintro r wn ⟨qv, rfl, hqo, hbn⟩; replace hqo := hide hqo; have hge := hHeld.1; have sn := unhide hS13 _ (below_two (unhide hHeld.1) hbn)))
              refine hK.out _ _ ?_ (fun hHeld => ?_)
              · with_reducible exact sn
              clear hK K
              try simp only [Act.put, List.setIfInBounds_toArray, List.set_cons_zero, List.set_cons_succ]
              refine wpAnyH_take (i := 17) (oi := { dst := some 8, op := Op.assign (Operand.tmp 57), type := 32, pos := "l08_stroke.go:48", after := #[{ on := 16, ground := Ground.data }, { on := 16, ground := Ground.chain }, { on := 0, ground := Ground.phase }, { on := 1, ground := Ground.phase }, { on := 2, ground := Ground.phase }, { on := 3, ground := Ground.phase }, { on := 4, ground := Ground.phase }, { on := 5, ground := Ground.phase }, { on := 6, ground := Ground.phase }, { on := 7, ground := Ground.phase }, { on := 8, ground := Ground.phase }, { on := 9, ground := Ground.phase }, { on := 10, ground := Ground.phase }, { on := 11, ground := Ground.phase }, { on := 12, ground := Ground.phase }, { on := 13, ground := Ground.phase }, { on := 14, ground := Ground.phase }, { on := 15, ground := Ground.phase }, { on := 16, ground := Ground.phase }], guard := none }) (v := ?_) rfl (by kernel_rfl) (by kernel_rfl) (by kernel_rfl) (fun _ _ _ h => h) (Or.inl ⟨by rfl, ?_⟩) (by assumption) ?_
              rotate_left
              · intro w hSw; (try dsimp only at hSw); go_simp <;> with_reducible rfl
              try simp only [Act.put, List.setIfInBounds_toArray, List.set_cons_zero, List.set_cons_succ]
              refine wpAnyH_done (by kernel_rfl) ?_ _
              have hbn2 := hide (unhide hHeld.1)
              have hge2 := hide (unhide hge).size
              obtain ⟨aq, cq, eq⟩ := own_form (unhide hqo)
              subst eq
              have G2 := hide ((unhide G).next (unhide hbn2))
              clear hHeld sn hS13 EQ hge
              by_cases hql : 0 < QL.length
              · have hql' : (0 : Int) < (QL.length : Int) := by omega
                have hsq := hide (unhide hqy0 hql)
                clear hqy0 hqn0
                go_wp2_with (at_builtin; go_must (refine wpList_append_ll wn rfl _ _ 24 rfl w.heap.size i2 (.slice none 0 0) 24 Tryt.underlying24 hi2 hz2 hs2 hb2 rfl _ L.length vs (by rfl) (unhide G2).1 (.slice aq QL.length cq) rfl 1 (by rfl) (by have := unhide hlen; unfold maxLen; omega) (by have := unhide hlen; omega) (unhide G2).2.2.size ?_); intro v9 w9 ho9 hg9 _; have G9 := hide ((unhide G).push (unhide hbn2) (unhide hge2) (unhide hqo) ho9 hg9); obtain ⟨a9, n9, c9, rfl⟩ := own_form3 ho9; clear ho9 hg9)
                go_meet
                exact ⟨_, _, hide (by rw [unhide hsq, ← unhide hL]), G9⟩
              · have hql' : ¬ (0 : Int) < (QL.length : Int) := by omega
                have hsq := hide (unhide hqn0 hql)
                clear hqy0 hqn0
                go_wp2_with fail
                go_meet
                exact ⟨_, _, by rw [unhide hsq, List.append_nil]; exact hL, G2⟩
          case rest =>
          clear G
          obtain ⟨vs, L2, hL2, G⟩ := hcut
          obtain ⟨a5, c5, e1⟩ := (unhide G).form
          subst e1
          have hlen2 := hide (show L2.length + 1 ≤ 5800000000002 by
            have h1 := unhide hlen
            have h2 := stepQ_len W f m
            rw [unhide hL] at h1
            rw [unhide hL2, List.length_append]
            omega)
          obtain ⟨hc0, hpp⟩ := unhide HH _ (unhide G).2.2
          obtain ⟨_, _, e2, hq0, hq1⟩ := hpp m hlm
          cases e2
          rw [unhide hqx] at hq0
          rw [unhide hqy] at hq1
          have hwm : IntKind.i64.wrap ((m : Int) + 1) = ((m + 1 : Nat) : Int) := by rw [IntWalk.i64_in _ (by omega)]; omega
          clear hL hpp
          by_cases h0 : 0 < m
          · have hgt : (0 : Int) < (m : Int) := by omega
            by_cases h1 : m + 1 < n
            · have hgt1 : ((m + 1 : Nat) : Int) < (n : Int) := by omega
              have hst := hide (show strokeL W f n (m + 1) = strokeL W f n m ++ stepQ W f m ++ [jointW W (qx, qy)] by
                have : stepJ W f n m = [jointW W (f m)] := if_pos ⟨h0, h1⟩
                show strokeL W f n m ++ stepQ W f m ++ stepJ W f n m = _
                rw [this, show f m = (qx, qy) from Prod.ext (unhide hqx) (unhide hqy)])
              clear h0 h1
              go_wp2_with fail
              go_fit (specJoint_any qx qy W (unhide hok) hW _)
              rintro r w6 ⟨qv, rfl, hqo, hb6⟩
              obtain ⟨aq, cq, eq⟩ := own_form hqo
              subst eq
              have G2 := hide ((unhide G).next hb6)
              replace hqo := hide hqo
              replace hb6 := hide hb6
              clear hc0 hq0 hq1
              go_wp2_with (at_builtin; go_must (refine wpList_append_ll w6 rfl _ _ 24 rfl w.heap.size i2 (.slice none 0 0) 24 Tryt.underlying24 hi2 hz2 hs2 hb2 rfl _ L2.length vs (by rfl) (unhide G2).1 (.slice aq (jointW W (qx, qy)).length cq) rfl 1 (by rfl) (by have := unhide hlen2; unfold maxLen; omega) (by have := unhide hlen2; omega) (unhide G2).2.2.size ?_); intro v9 w9 ho9 hg9 _; have G9 := hide ((unhide G).push (unhide hb6) (Nat.le_refl _) (unhide hqo) ho9 hg9); obtain ⟨a9, n9, c9, rfl⟩ := own_form3 ho9; clear ho9 hg9)
              go_roundw
              case rel => exact ⟨m + 1, _, _, by omega, by go_num, hide (by rw [unhide hst, unhide hL2]; simp [List.append_assoc]), G9, OK2⟩
              case measure => simp [intOf]; omega
            · have hgt1 : ¬ ((m + 1 : Nat) : Int) < (n : Int) := by omega
              have hst := hide (show strokeL W f n (m + 1) = strokeL W f n m ++ stepQ W f m by
                have : stepJ W f n m = [] := if_neg (fun e => h1 e.2)
                show strokeL W f n m ++ stepQ W f m ++ stepJ W f n m = _
                rw [this, List.append_nil])
              clear h0 h1
              go_wp2_with fail
              go_roundw
              case rel => exact ⟨m + 1, _, _, by omega, by go_num, hide (by rw [unhide hst, unhide hL2]; simp [List.append_assoc]), G, OK2⟩
              case measure => simp [intOf]; omega
          · have hng : ¬ (0 : Int) < (m : Int) := by omega
            have hst := hide (show strokeL W f n (m + 1) = strokeL W f n m ++ stepQ W f m by
              have : stepJ W f n m = [] := if_neg (fun e => h0 e.1)
              show strokeL W f n m ++ stepQ W f m ++ stepJ W f n m = _
              rw [this, List.append_nil])
            clear h0
            go_wp2_with fail
            go_roundw
            case rel => exact ⟨m + 1, _, _, by omega, by go_num, hide (by rw [unhide hst, unhide hL2]; simp [List.append_assoc]), G, OK2⟩
            case measure => simp [intOf]; omega
        · have hme : m = n := by omega
          subst hme
          have hlm' : ¬ (m : Int) < (m : Int) := by omega
          have hLn := hide (show L = strokeN W ln pf (k + 1) by rw [unhide hnext]; exact unhide hL)
          have OKn := hide (unhide hOKn (unhide OK))
          go_wp2_with fail
          go_roundw
          case rel => exact ⟨k + 1, _, _, by omega, by go_num, hLn, G, OKn⟩
          case measure => simp [intOf]; omega
    · have hke : k = N := by omega
      subst hke
      have hlt' : ¬ (k : Int) < (k : Int) := by omega
      have hR := hide (unhide hyes (unhide OK))
      go_wp2_with fail
      go_ret
      exact ⟨_, rfl, by rw [unhide hR, ← unhide hLK]; exact (unhide G).lines, (unhide G).2.2⟩
end Go.Proofs.YtmofjlonmggpmaaTw

/-
  Lists of lists of points in the laws: alike, marked, held.
-/
namespace Go.Proofs.YtmofjlonmggpmaaTw
open Go.RowKit
set_option linter.unusedVariables false

theorem rows_apart' {w : World} {b1 e1 s1 n1 b2 e2 s2 n2 : Nat} {v1 v2 : Value} {xs ys : List Value} (h1 : w.ownsRow b1 e1 s1 v1 n1 xs) (h2 : w.ownsRow b2 e2 s2 v2 n2 ys) (he : e1 ≠ e2) : v1.ownBlock = none ∨ v1.ownBlock ≠ v2.ownBlock := by
  rcases h1.2 with ⟨rfl, _⟩ | ⟨g, cap, cur, rfl, _, hg, _⟩
  · exact .inl rfl
  · right
    rcases h2.2 with ⟨rfl, _⟩ | ⟨g', cap', cur', rfl, _, hg', _⟩
    · simp [Value.ownBlock]
    · intro e
      simp only [Value.ownBlock, Option.some.injEq] at e
      subst e
      rw [hg] at hg'
      injection hg' with hg'
      injection hg' with _ h3
      exact he h3
/-- One list of a list of lists, and where it lies. -/
theorem line_at {u : World} {base base' e n c i : Nat} {g : Nat} {vs : List Value} {L : List (List Pt)} (ho : u.ownsRow base e 1 (.slice (some ⟨g, 0, none⟩) n c) n vs) (h : Lines u base' vs L) (hn : n = L.length) (hi : i < L.length) :
    ∃ a d, vs[i]? = some (.slice a L[i].length d) ∧ u.cell? ⟨g, i, none⟩ = some (.slice a L[i].length d) ∧ u.ownsRow base' 38 2 (.slice a L[i].length d) L[i].length (ptsV L[i]) := by
  have hv : i < vs.length := by rw [h.len]; exact hi
  have h1 := h.own i vs[i] L[i] (List.getElem?_eq_getElem hv) (List.getElem?_eq_getElem hi)
  obtain ⟨a, d, e⟩ := own_form h1
  refine ⟨a, d, by rw [List.getElem?_eq_getElem hv, e], by rw [ho.cellAt i (by omega), List.getElem?_eq_getElem hv, e], by rw [e] at h1; exact h1⟩
theorem LinesV.form {u : World} {base : Nat} {v : Value} {L : List (List Pt)} (h : LinesV u base v L) : ∃ a c, v = .slice a L.length c :=
  let ⟨_, h1, _⟩ := h; own_form h1

set_option maxHeartbeats 4000000 in
set_option maxRecDepth 100000 in
theorem eqPointSS_any (L : List (List Pt)) (a b : Option Addr) (n c d base base' : Nat) (hn : n = L.length) (hL : L.length ≤ 4300000000000) (hl : ∀ l ∈ L, l.length ≤ 400000) (w : World) (h : LinesV w base (.slice a n c) L) (h' : LinesV w base' (.slice b n d) L) :
    Calls Tryt.prog 9 #[.slice a n c, .slice b n d] w fun r w' => r = .returned (.bool true) ∧ Below w.heap.size w w' := by
  obtain ⟨vs, o1, k1⟩ := h
  obtain ⟨vs', o2, k2⟩ := h'
  rw [← hn] at o1 o2
  replace o1 := hide o1
  replace o2 := hide o2
  replace k1 := hide k1
  replace k2 := hide k2
  replace hl := hide hl
  replace hn := hide hn
  go_enter Tryt.func9, Try.ntmps9
  go_wp2_with fail
  go_loopw [5] (fun i u => ∃ k : Nat, k ≤ n ∧ i = .int .i64 k ∧ Below w.heap.size w u) (fun i _ => n - (intOf i).toNat)
  case atStart => exact ⟨0, Nat.zero_le _, rfl, Below.refl _ _⟩
  case round =>
    obtain ⟨k, hk, rfl, hb⟩ := hrel
    by_cases hlt : k < n
    · have hkL : k < L.length := by rw [← unhide hn]; exact hlt
      obtain ⟨g, _, e1, _, _⟩ := own_at (unhide o1) (by omega)
      cases e1
      obtain ⟨g', _, e2, _, _⟩ := own_at (unhide o2) (by omega)
      cases e2
      obtain ⟨x, cx, _, g0, ox⟩ := line_at (unhide o1) (unhide k1) (unhide hn) hkL
      obtain ⟨y, cy, _, g1, oy⟩ := line_at (unhide o2) (unhide k2) (unhide hn) hkL
      have hlk := unhide hl _ (List.getElem_mem hkL)
      have E := hide (fun u (hu : Below w.heap.size w u) => eqPointS_arg (listP L[k]) x y L[k].length cx cy (by omega) u (fun i hi => (own_pxa ox (px_list _) i hi).next hu) (fun i hi => (own_pxa oy (px_list _) i hi).next hu))
      generalize L[k].length = m at g0 g1 E
      have HB := hide hb
      have k0 : ∀ u, Below wr.heap.size wr u → (u.cell? ⟨g, k, none⟩ = some (.slice x m cx) ∧ u.cell? ⟨g', k, none⟩ = some (.slice y m cy) ∧ Below wr.heap.size wr u) := fun u h => ⟨kc h (kc hb g0), kc h (kc hb g1), h⟩
      have kS : ∀ u, (u.cell? ⟨g, k, none⟩ = some (.slice x m cx) ∧ u.cell? ⟨g', k, none⟩ = some (.slice y m cy) ∧ Below wr.heap.size wr u) → Below wr.heap.size wr u := fun u h => h.2.2
      clear hb ox oy hlk g0 g1
      replace k0 := hide k0
      go_upto_region 6 with fail
      go_region_held3 (fun u => u.cell? ⟨g, k, none⟩ = some (.slice x m cx) ∧ u.cell? ⟨g', k, none⟩ = some (.slice y m cy) ∧ Below wr.heap.size wr u) ((with_reducible refine unhide k0 _ ?_; first | with_reducible exact (Below.refl _ _).drew | with_reducible assumption)) (first | (go_at_call 29; go_fit (unhide E _ (below_two (unhide HB) (kS _ (by with_reducible assumption)))); rintro r w4 ⟨rfl, hb4⟩; have hW4 := below_after hb4 (kS _ (by with_reducible assumption)) (Nat.le_refl _)))
      all_goals
        have hW9 := kS _ (by with_reducible assumption)
        go_wp2_with fail
        go_roundw
        case rel => exact ⟨k + 1, by omega, by go_num, below_two (unhide HB) hW9⟩
        case measure => simp [intOf]; omega
    · have hke : k = n := by omega
      subst hke
      replace hb := hide hb
      go_wp2_with fail
      go_ret
      exact ⟨rfl, unhide hb⟩

/-- The cells ahead of number i. -/
def preN (L : List (List Pt)) : Nat → Nat
  | 0 => 0
  | i + 1 => preN L i + (L.getD i []).length * 2
theorem preN_le (L : List (List Pt)) (hl : ∀ l ∈ L, l.length ≤ 400000) : ∀ i, preN L i ≤ 800000 * i
  | 0 => by simp [preN]
  | i + 1 => by
    have := preN_le L hl i
    have h2 : (L.getD i []).length ≤ 400000 := by
      rw [List.getD_eq_getElem?_getD]
      cases h : L[i]? with
      | none => simp
      | some l => exact hl l (List.mem_of_getElem? h)
    simp only [preN]; omega
/-- Lists whose points have been marked from k on. -/
structure Ramps (u : World) (base : Nat) (vs : List Value) (L : List (List Pt)) (k : Nat) : Prop where
  len : vs.length = L.length
  own : ∀ (i : Nat) v l, vs[i]? = some v → L[i]? = some l → ∃ ys, u.ownsRow base 38 2 v l.length ys ∧ Ramp ys (k + preN L i) (l.length * 2)
theorem Ramps.next {u u' : World} {base k : Nat} {vs : List Value} {L : List (List Pt)} (h : Ramps u base vs L k) (hb : Below u.heap.size u u') : Ramps u' base vs L k :=
  ⟨h.len, fun i v l h1 h2 => let ⟨ys, h3, h4⟩ := h.own i v l h1 h2; ⟨ys, own_below h3 hb, h4⟩⟩
def RampsV (u : World) (base : Nat) (v : Value) (L : List (List Pt)) (k : Nat) : Prop := ∃ vs, u.ownsRow base 32 1 v L.length vs ∧ Ramps u base vs L k
theorem RampsV.next {u u' : World} {base k : Nat} {v : Value} {L : List (List Pt)} (h : RampsV u base v L k) (hb : Below u.heap.size u u') : RampsV u' base v L k :=
  let ⟨vs, h1, h2⟩ := h; ⟨vs, own_below h1 hb, h2.next hb⟩

set_option maxHeartbeats 4000000 in
set_option maxRecDepth 100000 in
theorem heldPointSS_any (L : List (List Pt)) (a : Option Addr) (n c base : Nat) (hn : n = L.length) (hL : L.length ≤ 4300000000000) (hl : ∀ l ∈ L, l.length ≤ 400000) (w : World) (h : RampsV w base (.slice a n c) L 1) :
    Calls Tryt.prog 11 #[.slice a n c, .int .i64 1] w fun r w' => r = .returned (.int .i64 ((1 + preN L n : Nat) : Int)) ∧ Below w.heap.size w w' := by
  obtain ⟨vs, o1, k1⟩ := h
  rw [← hn] at o1
  have hpre := hide (preN_le L hl)
  replace o1 := hide o1
  replace k1 := hide k1
  replace hl := hide hl
  replace hn := hide hn
  go_enter Tryt.func11, Try.ntmps11
  go_wp2_with fail
  go_loopw [1, 5] (fun q i u => ∃ k : Nat, k ≤ n ∧ i = .int .i64 k ∧ q = .int .i64 ((1 + preN L k : Nat) : Int) ∧ u = w) (fun _ i _ => n - (intOf i).toNat)
  case atStart => exact ⟨0, Nat.zero_le _, rfl, rfl, rfl⟩
  case round =>
    obtain ⟨k, hk, rfl, rfl, rfl⟩ := hrel
    have hp := unhide hpre k
    by_cases hlt : k < n
    · have hkL : k < L.length := by rw [← unhide hn]; exact hlt
      obtain ⟨g, _, e1, _, _⟩ := own_at (unhide o1) (by omega)
      cases e1
      have hv : k < vs.length := by rw [(unhide k1).len]; exact hkL
      obtain ⟨ys, oy, hr⟩ := (unhide k1).own k _ _ (List.getElem?_eq_getElem hv) (List.getElem?_eq_getElem hkL)
      have g0 : wr.cell? ⟨g, k, none⟩ = some vs[k] := by rw [(unhide o1).cellAt k (by omega), List.getElem?_eq_getElem hv]
      have hlk := unhide hl _ (List.getElem_mem hkL)
      have E := hide (heldPointS_yes vs[k] base L[k].length (1 + preN L k) ys (by omega) (by omega) wr oy hr)
      have eP : Hid ((1 + preN L k + L[k].length * 2 : Nat) = 1 + preN L (k + 1)) := by unfold Hid; simp only [preN, List.getD_eq_getElem?_getD, List.getElem?_eq_getElem hkL, Option.getD_some]; omega
      obtain ⟨x, cx, ex⟩ := own_form oy
      rw [ex] at g0 E
      have hnn : ¬ (((1 + preN L k + L[k].length * 2 : Nat) : Int) < 0) := by omega
      rw [unhide eP] at E hnn
      generalize L[k].length = m at g0 E
      clear oy hr hlk ex eP hp
      generalize hq : ((1 + preN L (k + 1) : Nat) : Int) = Q at E hnn
      replace hq := hide hq
      generalize ((1 + preN L k : Nat) : Int) = Q0 at E ⊢
      go_wp2_with fail
      go_fit (unhide E)
      rintro r w1 ⟨rfl, rfl⟩
      go_wp2_with fail
      go_roundw
      case rel => exact ⟨k + 1, by omega, by go_num, by rw [← unhide hq], (by first | rfl | trivial)⟩
      case measure => simp [intOf]; omega
    · have hke : k = n := by omega
      subst hke
      go_wp2_with fail
      go_ret
      exact ⟨rfl, Below.refl _ _⟩

/-- While the lists are marked: the first k are, the others stand as they stood. -/
structure Half2 (u : World) (base : Nat) (vs : List Value) (L : List (List Pt)) (k : Nat) : Prop where
  done : ∀ (j : Nat) v l, j < k → vs[j]? = some v → L[j]? = some l → ∃ ys, u.ownsRow base 38 2 v l.length ys ∧ Ramp ys (1 + preN L j) (l.length * 2)
  todo : ∀ (j : Nat) v l, k ≤ j → vs[j]? = some v → L[j]? = some l → u.ownsRow base 38 2 v l.length (ptsV l)
theorem Half2.step {u u' : World} {base k : Nat} {vs : List Value} {L : List (List Pt)} {v : Value} {l : List Pt} {ys : List Value} (h : Half2 u base vs L k) (hup : ∀ (i j : Nat) v v', i < j → vs[i]? = some v → vs[j]? = some v' → ∀ x y, v.ownBlock = some x → v'.ownBlock = some y → x < y)
    (hv : vs[k]? = some v) (hl : L[k]? = some l) (hg : u.grownBy u' v.ownBlock) (ho : u'.ownsRow base 38 2 v l.length ys) (hr : Ramp ys (1 + preN L k) (l.length * 2)) : Half2 u' base vs L (k + 1) := by
  have ap : ∀ (j : Nat) x, j ≠ k → vs[j]? = some x → x.ownBlock = none ∨ x.ownBlock ≠ v.ownBlock := by
    intro j x hj hx
    cases e1 : x.ownBlock with
    | none => exact .inl rfl
    | some b1 =>
      right
      intro e
      rcases Nat.lt_or_gt_of_ne hj with hlt | hlt
      · have := hup j k x v hlt hx hv b1 b1 e1 e.symm; omega
      · have := hup k j v x hlt hv hx b1 b1 e.symm e1; omega
  refine ⟨?_, ?_⟩
  · intro j x y hj h1 h2
    by_cases hjk : j = k
    · subst hjk
      rw [hv] at h1; rw [hl] at h2
      cases h1; cases h2
      exact ⟨ys, ho, hr⟩
    · obtain ⟨zs, h3, h4⟩ := h.done j x y (by omega) h1 h2
      exact ⟨zs, h3.kept hg (ap j x hjk h1), h4⟩
  · intro j x y hj h1 h2
    exact (h.todo j x y (by omega) h1 h2).kept hg (ap j x (by omega) h1)

set_option maxHeartbeats 4000000 in
set_option maxRecDepth 100000 in
theorem markPointSS_by (L : List (List Pt)) (a : Option Addr) (n c base : Nat) (hn : n = L.length) (hL : L.length ≤ 4300000000000) (hl : ∀ l ∈ L, l.length ≤ 1048576) (hp0 : ∀ i, i ≤ L.length → preN L i ≤ 3440000000000000000) (w : World) (hs : base ≤ w.heap.size) (h : LinesV w base (.slice a n c) L) :
    Calls Tryt.prog 10 #[.slice a n c, .int .i64 1] w fun r w' => r = .returned (.int .i64 ((1 + preN L n : Nat) : Int)) ∧ RampsV w' base (.slice a n c) L 1 ∧ Below base w w' := by
  obtain ⟨vs, o1, k1⟩ := h
  rw [← hn] at o1
  have hpre := hide hp0
  have hup := hide k1.up
  have hln := hide k1.len
  have K0 := hide (show Half2 w base vs L 0 from ⟨fun j v l hj => absurd hj (by omega), fun j v l _ h1 h2 => k1.own j v l h1 h2⟩)
  replace o1 := hide o1
  clear k1
  replace hl := hide hl
  replace hn := hide hn
  clear hp0
  go_enter Tryt.func10, Try.ntmps10
  go_wp2_with fail
  go_loopw [1, 5] (fun q i u => ∃ k : Nat, k ≤ n ∧ i = .int .i64 k ∧ q = .int .i64 ((1 + preN L k : Nat) : Int) ∧ Hid (u.ownsRow base 32 1 (.slice a n c) n vs) ∧ Hid (Half2 u base vs L k) ∧ Hid (Below base w u)) (fun _ i _ => n - (intOf i).toNat)
  case atStart => exact ⟨0, Nat.zero_le _, rfl, rfl, o1, K0, Below.refl _ _⟩
  case round =>
    clear o1 K0
    obtain ⟨k, hk, rfl, rfl, o1, K0, HB⟩ := hrel
    have hp := unhide hpre k (by rw [← unhide hn]; exact hk)
    by_cases hlt : k < n
    · have hkL : k < L.length := by rw [← unhide hn]; exact hlt
      obtain ⟨g, _, e1, _, _⟩ := own_at (unhide o1) (by omega)
      cases e1
      have hv : k < vs.length := by rw [unhide hln]; exact hkL
      have hgv := hide (List.getElem?_eq_getElem hv)
      have hgl := hide (List.getElem?_eq_getElem hkL)
      have oy := (unhide K0).todo k _ _ (Nat.le_refl _) (unhide hgv) (unhide hgl)
      have g0 : wr.cell? ⟨g, k, none⟩ = some vs[k] := by rw [(unhide o1).cellAt k (by omega), List.getElem?_eq_getElem hv]
      have hlk := unhide hl _ (List.getElem_mem hkL)
      have E := hide (markPointS_any vs[k] base L[k].length (1 + preN L k) _ (by omega) (by omega) wr oy)
      have eP : Hid ((1 + preN L k + L[k].length * 2 : Nat) = 1 + preN L (k + 1)) := by unfold Hid; simp only [preN, List.getD_eq_getElem?_getD, List.getElem?_eq_getElem hkL, Option.getD_some]; omega
      have S := hide (fun u' ys hg ho hr => Half2.step (u' := u') (ys := ys) (unhide K0) (unhide hup) (unhide hgv) (unhide hgl) hg ho hr)
      have T := hide (fun u' (hg : wr.grownBy u' vs[k].ownBlock) => (unhide o1).kept hg (rows_apart' (unhide o1) oy (by decide)))
      have Z := hide (fun u' (hg : wr.grownBy u' vs[k].ownBlock) => (unhide HB).grown hg (Nat.le_trans hs (unhide HB).size) (fun b hb => (oy.lt b hb).1))
      obtain ⟨x, cx, ex⟩ := own_form oy
      rw [ex] at g0 E S T Z
      rw [unhide eP] at E
      clear oy hlk ex eP hp hgv hgl
      generalize hq : ((1 + preN L (k + 1) : Nat) : Int) = Q at E
      replace hq := hide hq
      generalize hq0 : ((1 + preN L k : Nat) : Int) = Q0 at E ⊢
      clear hq0
      go_wp2_with fail
      go_fit (unhide E)
      rintro r w1 ⟨rfl, ⟨ys, ho, hr⟩, hg⟩
      have K1 := hide (unhide S _ _ hg ho hr)
      have o2 := hide (unhide T _ hg)
      have B2 := hide (unhide Z _ hg)
      clear S T Z ho hr hg g0
      go_wp2_with fail
      go_roundw
      case rel => exact ⟨k + 1, by omega, by go_num, by rw [← unhide hq], o2, K1, B2⟩
      case measure => simp [intOf]; omega
    · have hke : k = n := by omega
      subst hke
      go_wp2_with fail
      go_ret
      exact ⟨rfl, ⟨vs, by rw [← unhide hn]; exact unhide o1, unhide hln, fun i v l h1 h2 => (unhide K0).done i v l (by rw [unhide hn]; exact (List.getElem?_eq_some_iff.1 h2).1) h1 h2⟩, unhide HB⟩

theorem markPointSS_any (L : List (List Pt)) (a : Option Addr) (n c base : Nat) (hn : n = L.length) (hL : L.length ≤ 4300000000000) (hl : ∀ l ∈ L, l.length ≤ 400000) (w : World) (hs : base ≤ w.heap.size) (h : LinesV w base (.slice a n c) L) :
    Calls Tryt.prog 10 #[.slice a n c, .int .i64 1] w fun r w' => r = .returned (.int .i64 ((1 + preN L n : Nat) : Int)) ∧ RampsV w' base (.slice a n c) L 1 ∧ Below base w w' :=
  markPointSS_by L a n c base hn hL (fun l h => Nat.le_trans (hl l h) (by omega)) (fun i hi => by have := preN_le L hl i; omega) w hs h
end Go.Proofs.YtmofjlonmggpmaaTw

/-
  Lists of lists of points that came in: their size, their copies, and that they are alike.
-/
namespace Go.Proofs.YtmofjlonmggpmaaTw
open Go.RowKit
set_option linter.unusedVariables false

theorem info_pts : (Tryt.prog.info? 32).map (fun i => (i.zero, i.size, i.bytes)) = some (some (.slice none 0 0), 1, 24) := by kernel_rfl
def sumN (ln : Nat → Nat) : Nat → Nat
  | 0 => 0
  | k + 1 => sumN ln k + ln k
theorem sumN_mono (ln : Nat → Nat) (k : Nat) : ∀ d, sumN ln k ≤ sumN ln (k + d)
  | 0 => Nat.le_refl _
  | d + 1 => Nat.le_trans (sumN_mono ln k d) (Nat.le_add_right _ _)
theorem sumN_le (ln : Nat → Nat) {k n : Nat} (h : k ≤ n) : sumN ln k ≤ sumN ln n := by
  have := sumN_mono ln k (n - k); rwa [show k + (n - k) = n by omega] at this
theorem sumN_one (ln : Nat → Nat) {k n : Nat} (h : k < n) : ln k ≤ sumN ln n := by
  have h1 := sumN_le ln (show k + 1 ≤ n from h); simp only [sumN] at h1; omega

set_option maxHeartbeats 4000000 in
set_option maxRecDepth 100000 in
theorem szPointSS_any (N : Nat) (ln : Nat → Nat) (pf : Nat → Nat → Pt) (hN : N ≤ maxLen) (hl : ∀ i, i < N → ln i ≤ maxLen) (la : Option Addr) (lc : Nat) (w : World) (L : ∀ i, i < N → LArg w la i (ln i) (pf i)) :
    Calls Tryt.prog 5 #[.slice la N lc, .int .i64 1048576] w fun r w' => r = .returned (.int .i64 (if 1048576 < N + sumN ln N then -1 else 1048576 - (N + sumN ln N : Nat))) ∧ w' = w := by
  have hw : IntKind.i64.wrap (1048576 - (N : Int)) = 1048576 - N := IntWalk.i64_in _ (by unfold maxLen at hN; omega)
  by_cases hbig : 1048576 < N
  · have h0 : 1048576 - (N : Int) < 0 := by omega
    rw [if_pos (by omega)]
    go_enter Tryt.func5, Try.ntmps5
    go_wp2_with fail
    go_ret
    exact ⟨rfl, rfl⟩
  · have h0 : ¬ 1048576 - (N : Int) < 0 := by omega
    obtain ⟨R, hR⟩ : ∃ R : Int, Hid ((if 1048576 < N + sumN ln N then -1 else 1048576 - ((N + sumN ln N : Nat) : Int)) = R) := ⟨_, rfl⟩
    rw [unhide hR]
    have EZ := hide (fun i (hi : i < N) (a : Option Addr) (c : Nat) (z : Int) hz u => szPointS_any a (ln i) c z hz (hl i hi) u)
    replace L := hide L
    replace hl := hide hl
    go_enter Tryt.func5, Try.ntmps5
    go_wp2_with fail
    go_loopw [1, 5] (fun z i u => ∃ k : Nat, k ≤ N ∧ i = .int .i64 k ∧ z = .int .i64 (1048576 - (N : Int) - (sumN ln k : Int)) ∧ N + sumN ln k ≤ 1048576 ∧ u = w) (fun _ i _ => N - (intOf i).toNat)
    case atStart => exact ⟨0, Nat.zero_le _, rfl, by simp [sumN], by simp only [sumN]; omega, rfl⟩
    case round =>
      obtain ⟨k, hk, rfl, rfl, hs, rfl⟩ := hrel
      by_cases hlt : k < N
      · obtain ⟨s, o, x, c, rfl, g0, _⟩ := unhide L k hlt
        have E1 := hide (unhide EZ k hlt x c (1048576 - (N : Int) - (sumN ln k : Int)) (by omega))
        have hs1 : Hid (sumN ln (k + 1) = sumN ln k + ln k) := rfl
        have hle := sumN_le ln (show k + 1 ≤ N from hlt)
        rw [unhide hs1] at hle
        generalize ln k = m at g0 E1 hs1 hle
        have hs2 : Hid (((sumN ln (k + 1) : Nat) : Int) = (sumN ln k : Int) + (m : Int)) := by unfold Hid; rw [unhide hs1]; push_cast; rfl
        by_cases hm : (1048576 : Int) - N - sumN ln k < m
        · rw [if_pos hm] at E1
          have hR2 : R = -1 := by rw [← unhide hR, if_pos (by omega)]
          subst hR2
          go_wp2_with fail
          go_fit (unhide E1 _)
          rintro r w1 ⟨rfl, rfl⟩
          go_wp2_with fail
          go_ret
          exact ⟨rfl, rfl⟩
        · rw [if_neg hm] at E1
          have hge : ¬ (1048576 : Int) - N - sumN ln k - m < 0 := by omega
          have hnx : Hid (N + sumN ln (k + 1) ≤ 1048576) := by unfold Hid; rw [unhide hs1]; omega
          generalize ((sumN ln k : Nat) : Int) = T at E1 hge hs2 ⊢
          go_wp2_with fail
          go_fit (unhide E1 _)
          rintro r w1 ⟨rfl, rfl⟩
          go_wp2_with fail
          go_roundw
          case rel => exact ⟨k + 1, by omega, by go_num, by rw [unhide hs2]; congr 1; omega, unhide hnx, trivial⟩
          case measure => simp [intOf]; omega
      · have hke : k = N := by omega
        subst hke
        have hR2 : Hid (1048576 - (k : Int) - (sumN ln k : Int) = R) := by unfold Hid; rw [← unhide hR, if_neg (by omega)]; omega
        go_wp2_with fail
        go_ret
        exact ⟨congrArg (fun z => Ending.returned (.int .i64 z)) (unhide hR2), rfl⟩

set_option maxHeartbeats 4000000 in
set_option maxRecDepth 100000 in
theorem eqPointSS_arg (N : Nat) (ln : Nat → Nat) (pf : Nat → Nat → Pt) (hN : N ≤ 1048576) (hl : ∀ i, i < N → ln i ≤ 1048576) (a b : Option Addr) (c d : Nat) (w : World) (h : ∀ i, i < N → LArg w a i (ln i) (pf i)) (h' : ∀ i, i < N → LArg w b i (ln i) (pf i)) :
    Calls Tryt.prog 9 #[.slice a N c, .slice b N d] w fun r w' => r = .returned (.bool true) ∧ Below w.heap.size w w' := by
  replace h := hide h
  replace h' := hide h'
  replace hl := hide hl
  go_enter Tryt.func9, Try.ntmps9
  go_wp2_with fail
  go_loopw [5] (fun i u => ∃ k : Nat, k ≤ N ∧ i = .int .i64 k ∧ Below w.heap.size w u) (fun i _ => N - (intOf i).toNat)
  case atStart => exact ⟨0, Nat.zero_le _, rfl, Below.refl _ _⟩
  case round =>
    obtain ⟨k, hk, rfl, hb⟩ := hrel
    by_cases hlt : k < N
    · obtain ⟨g, o, x, cx, rfl, g0, ox⟩ := unhide h k hlt
      obtain ⟨g', o', y, cy, rfl, g1, oy⟩ := unhide h' k hlt
      have hlk := unhide hl k hlt
      have E := hide (fun u (hu : Below w.heap.size w u) => eqPointS_arg (pf k) x y (ln k) cx cy hlk u (fun i hi => (ox i hi).next hu) (fun i hi => (oy i hi).next hu))
      generalize ln k = m at g0 g1 E
      have HB := hide hb
      have k0 : ∀ u, Below wr.heap.size wr u → (u.cell? ⟨g, o + k, none⟩ = some (.slice x m cx) ∧ u.cell? ⟨g', o' + k, none⟩ = some (.slice y m cy) ∧ Below wr.heap.size wr u) := fun u h => ⟨kc h (kc hb g0), kc h (kc hb g1), h⟩
      have kS : ∀ u, (u.cell? ⟨g, o + k, none⟩ = some (.slice x m cx) ∧ u.cell? ⟨g', o' + k, none⟩ = some (.slice y m cy) ∧ Below wr.heap.size wr u) → Below wr.heap.size wr u := fun u h => h.2.2
      clear hb ox oy hlk g0 g1
      replace k0 := hide k0
      go_upto_region 6 with fail
      go_region_held3 (fun u => u.cell? ⟨g, o + k, none⟩ = some (.slice x m cx) ∧ u.cell? ⟨g', o' + k, none⟩ = some (.slice y m cy) ∧ Below wr.heap.size wr u) ((with_reducible refine unhide k0 _ ?_; first | with_reducible exact (Below.refl _ _).drew | with_reducible assumption)) (first | (go_at_call 29; go_fit (unhide E _ (below_two (unhide HB) (kS _ (by with_reducible assumption)))); rintro r w4 ⟨rfl, hb4⟩; have hW4 := below_after hb4 (kS _ (by with_reducible assumption)) (Nat.le_refl _)))
      all_goals
        have hW9 := kS _ (by with_reducible assumption)
        go_wp2_with fail
        go_roundw
        case rel => exact ⟨k + 1, by omega, by go_num, below_two (unhide HB) hW9⟩
        case measure => simp [intOf]; omega
    · have hke : k = N := by omega
      subst hke
      replace hb := hide hb
      go_wp2_with fail
      go_ret
      exact ⟨rfl, unhide hb⟩
end Go.Proofs.YtmofjlonmggpmaaTw

/-
  Lists of lists of points that the laws hand over: each of one's own.
-/
namespace Go.Proofs.YtmofjlonmggpmaaTw
open Go.RowKit
set_option linter.unusedVariables false

theorem px_unique {xs ys : List Value} {f : Nat → Int × Int} {n : Nat} (hx : PxAt xs f n) (hy : PxAt ys f n) (lx : xs.length = n * 2) (ly : ys.length = n * 2) : xs = ys := by
  apply List.ext_getElem?
  intro j
  by_cases hj : j < n * 2
  · rcases Nat.mod_two_eq_zero_or_one j with e | e
    · have e2 : j = j / 2 * 2 := by omega
      rw [e2, (hx (j / 2) (by omega)).1, (hy (j / 2) (by omega)).1]
    · have e2 : j = j / 2 * 2 + 1 := by omega
      rw [e2, (hx (j / 2) (by omega)).2, (hy (j / 2) (by omega)).2]
  · rw [List.getElem?_eq_none (by omega), List.getElem?_eq_none (by omega)]
theorem Lines.setc {u : World} {b j : Nat} {vs : List Value} {L : List (List Pt)} (h : Lines u (b + 1) vs L) (x : Value) : Lines (u.setCell ⟨b, j, none⟩ x) (b + 1) vs L :=
  ⟨h.len, fun i v l h1 h2 => own_setc (h.own i v l h1 h2) (Nat.lt_succ_self _), h.up⟩
/-- The lists as a list. -/
def linesN (ln : Nat → Nat) (pf : Nat → Nat → Pt) (N : Nat) : List (List Pt) := listN (fun i => listN (pf i) (ln i)) N
theorem linesN_len (ln : Nat → Nat) (pf : Nat → Nat → Pt) (N : Nat) : (linesN ln pf N).length = N := listN_len _ _
theorem linesN_more (ln : Nat → Nat) (pf : Nat → Nat → Pt) (N : Nat) : linesN ln pf (N + 1) = linesN ln pf N ++ [listN (pf N) (ln N)] := listN_more _ _
theorem preN_lines (ln : Nat → Nat) (pf : Nat → Nat → Pt) (N : Nat) : ∀ i, i ≤ N → preN (linesN ln pf N) i = 2 * sumN ln i
  | 0, _ => by simp [preN, sumN]
  | i + 1, h => by
    have e : ((linesN ln pf N).getD i []).length = ln i := by
      unfold linesN; rw [List.getD_eq_getElem?_getD, listN_get _ (by omega)]; simp [listN_len]
    simp only [preN, sumN]; rw [preN_lines ln pf N i (by omega), e]; omega

/-- .. and all lists lie below block B. -/
def LinesU (u : World) (base B : Nat) (v : Value) (L : List (List Pt)) : Prop := ∃ vs, u.ownsRow base 32 1 v L.length vs ∧ Lines u base vs L ∧ Under B vs
theorem LinesU.next {u u' : World} {base B : Nat} {v : Value} {L : List (List Pt)} (h : LinesU u base B v L) (hb : Below u.heap.size u u') : LinesU u' base B v L := let ⟨vs, h1, h2, h3⟩ := h; ⟨vs, own_below h1 hb, h2.next hb, h3⟩
theorem LinesU.toV {u : World} {base B : Nat} {v : Value} {L : List (List Pt)} (h : LinesU u base B v L) : LinesV u base v L := let ⟨vs, h1, h2, _⟩ := h; ⟨vs, h1, h2⟩
theorem own_same {w w' : World} {base e s n : Nat} {v : Value} {xs : List Value} (h : w.ownsRow base e s v n xs) (hk : ∀ k, v.ownBlock = some k → w'.heap[k]? = w.heap[k]?) : w'.ownsRow base e s v n xs := by
  obtain ⟨h1, h2⟩ := h
  refine ⟨h1, ?_⟩
  rcases h2 with h2 | ⟨g, cap, cur, e1, e2, h3, h4⟩
  · exact .inl h2
  · exact .inr ⟨g, cap, cur, e1, e2, (hk g (by rw [e1]; rfl)).trans h3, h4⟩

/-- The first k lists stand in the row. -/
def Half3 (u : World) (b : Nat) (xs : List Value) (ln : Nat → Nat) (pf : Nat → Nat → Pt) (k : Nat) : Prop :=
  ∃ vs, vs.length = k ∧ (∀ j, j < k → xs[j]? = vs[j]?) ∧ Lines u (b + 1) vs (linesN ln pf k) ∧ Under u.heap.size vs
theorem Half3.step {u w2 : World} {b : Nat} {xs : List Value} {ln : Nat → Nat} {pf : Nat → Nat → Pt} {k : Nat} {v : Value} (h : Half3 u b xs ln pf k) (hk : k < xs.length) (hb : Below u.heap.size u w2) (hbu : b + 1 ≤ u.heap.size) (ho : w2.ownsRow u.heap.size 38 2 v (ln k) (ptsV (listN (pf k) (ln k)))) :
    Half3 (w2.setCell ⟨b, k, none⟩ v) b (xs.set k v) ln pf (k + 1) := by
  obtain ⟨vs, h1, h2, h3, h4⟩ := h
  refine ⟨vs ++ [v], by simp [h1], fun j hj => ?_, ?_, ?_⟩
  · by_cases e : j = k
    · subst e; rw [List.getElem?_set_self hk, List.getElem?_append_right (by omega), h1]; simp
    · rw [List.getElem?_set_ne (by omega), h2 j (by omega), List.getElem?_append_left (by omega)]
  · rw [linesN_more]
    refine Lines.setc ?_ v
    exact (h3.next hb).push (by rw [listN_len]; exact ho) hbu h4
  · have hs : (w2.setCell ⟨b, k, none⟩ v).heap.size = w2.heap.size := by simp [World.setCell]
    rw [hs]
    exact h4.push hb.size (fun q hq => (ho.lt q hq).2)

set_option maxHeartbeats 4000000 in
set_option maxRecDepth 100000 in
theorem toPointSS_own (N : Nat) (ln : Nat → Nat) (pf : Nat → Nat → Pt) (hN : N ≤ 1048576) (hl : ∀ i, i < N → ln i ≤ 1048576) (la : Option Addr) (lc : Nat) (w : World) (L : ∀ i, i < N → LArg w la i (ln i) (pf i)) :
    Calls Tryt.prog 7 #[.slice la N lc] w fun r w' => ∃ s, r = .returned (.slice (some ⟨s, 0, none⟩) N N) ∧ LinesU w' w.heap.size w'.heap.size (.slice (some ⟨s, 0, none⟩) N N) (linesN ln pf N) ∧ Below w.heap.size w w' := by
  obtain ⟨i0, hi, hz0, hz1, hz2⟩ := info_parts info_pts
  have ET := hide (fun i (hi : i < N) (a : Option Addr) (c : Nat) u P => toPointS_own (pf i) a (ln i) c (hl i hi) u P)
  replace L := hide L
  replace hl := hide hl
  go_enter Tryt.func7, Try.ntmps7
  go_wp2_with (at_make; go_must (refine wpList_make_full w rfl _ _ 24 rfl w.heap.size 32 i0 (.slice none 0 0) 1 Tryt.underlying24 hi hz0 hz1 .i64 .i64 _ _ N (by rfl) (by rfl) (by omega) (by omega) (by rw [hz2]; omega) (by unfold maxLen; omega) (Nat.le_refl _) ?_); intro w1 hown1 hg1)
  have B1 : Below w.heap.size w w1 := (Below.refl _ w).grown hg1 (Nat.le_refl _) (by simp)
  clear hg1
  go_loopw [4] (fun i u => ∃ (k : Nat) (xs : List Value), k ≤ N ∧ i = .int .i64 k ∧ u.ownsRow w.heap.size 32 1 (.slice (some ⟨w.heap.size, 0, none⟩) N N) N xs ∧ Hid (Half3 u w.heap.size xs ln pf k) ∧ Below w.heap.size w u) (fun i _ => N - (intOf i).toNat)
  case atStart => exact ⟨0, _, Nat.zero_le _, rfl, hown1, ⟨[], rfl, fun j hj => absurd hj (by omega), Lines.nil _ _, fun v hv => by simp at hv⟩, B1⟩
  case round =>
    obtain ⟨k, xs, hk, rfl, hown, HX, hb⟩ := hrel
    clear hown1 B1
    have O := hide hown
    by_cases hlt : k < N
    · obtain ⟨s, o, x, c, rfl, g0, hP⟩ := (unhide L k hlt).next hb
      have hlen : k < xs.length := by have := hown.1; omega
      have E1 := hide (unhide ET k hlt x c wr hP)
      have hsz := hide (hown.lt w.heap.size rfl).2
      have HB := hide hb
      clear hb hown hP
      go_wp2_with fail
      go_fit (unhide E1)
      rintro r w2 ⟨rfl, ⟨ys, ho2, hp2⟩, hb2⟩
      have c0 : w2.cell? ⟨w.heap.size, k, none⟩ = some xs[k] := by rw [(own_below (unhide O) hb2).cellAt _ (by omega)]; exact List.getElem?_eq_getElem _
      have f0 := (own_below (unhide O) hb2).frozenAt k
      replace O := hide (own_below (unhide O) hb2)
      have hys : ys = ptsV (listN (pf k) (ln k)) := px_unique hp2 (px_listN _ _) ho2.1 (by rw [ptsV_len, listN_len])
      rw [hys] at ho2
      replace HX := hide ((unhide HX).step hlen hb2 (unhide hsz) ho2)
      replace HB := hide (below_two (unhide HB) hb2)
      clear g0 hp2 hb2 E1 ho2 hys
      generalize wr.heap.size = t at HX ⊢
      generalize ln k = m at HX ⊢
      go_wp2_with fail
      go_roundw
      case rel => exact ⟨k + 1, _, by omega, by go_num, ((unhide O).stored _ _).1, HX, (unhide HB).setCell (p := ⟨w.heap.size, k, none⟩) (Nat.le_refl _) _⟩
      case measure => simp [intOf]; omega
    · have hke : k = N := by omega
      subst hke
      have hp := hide (show LinesU wr w.heap.size wr.heap.size (.slice (some ⟨w.heap.size, 0, none⟩) k k) (linesN ln pf k) from by
        obtain ⟨vs, h1, h2, h3, h4⟩ := unhide HX
        have e : xs = vs := by
          apply List.ext_getElem?
          intro j
          by_cases hj : j < k
          · exact h2 j hj
          · rw [List.getElem?_eq_none (by have := hown.1; omega), List.getElem?_eq_none (by omega)]
        rw [e] at hown
        exact ⟨vs, by rw [linesN_len]; exact hown, h3.low (Nat.le_succ _), h4⟩)
      have HB := hide hb
      clear hb hown O HX
      go_wp2_with fail
      go_ret
      exact ⟨_, rfl, unhide hp, unhide HB⟩
set_option maxHeartbeats 4000000 in
set_option maxRecDepth 100000 in
theorem markPointSS_far (L : List (List Pt)) (a : Option Addr) (n c base : Nat) (hn : n = L.length) (hL : L.length ≤ 4300000000000) (hl : ∀ l ∈ L, l.length ≤ 1048576) (hp0 : ∀ i, i ≤ L.length → preN L i ≤ 3440000000000000000) (w : World) (hs : base ≤ w.heap.size) (B : Nat) (h : LinesU w base B (.slice a n c) L) :
    Calls Tryt.prog 10 #[.slice a n c, .int .i64 1] w fun r w' => r = .returned (.int .i64 ((1 + preN L n : Nat) : Int)) ∧ Below base w w' ∧ ∀ q, B ≤ q → q < w.heap.size → w'.heap[q]? = w.heap[q]? := by
  obtain ⟨vs, o1, k1, un⟩ := h
  replace un := hide un
  rw [← hn] at o1
  have hpre := hide hp0
  have hup := hide k1.up
  have hln := hide k1.len
  have K0 := hide (show Half2 w base vs L 0 from ⟨fun j v l hj => absurd hj (by omega), fun j v l _ h1 h2 => k1.own j v l h1 h2⟩)
  replace o1 := hide o1
  clear k1
  replace hl := hide hl
  replace hn := hide hn
  clear hp0
  go_enter Tryt.func10, Try.ntmps10
  go_wp2_with fail
  go_loopw [1, 5] (fun q i u => ∃ k : Nat, k ≤ n ∧ i = .int .i64 k ∧ q = .int .i64 ((1 + preN L k : Nat) : Int) ∧ Hid (u.ownsRow base 32 1 (.slice a n c) n vs) ∧ Hid (Half2 u base vs L k) ∧ Hid (Below base w u) ∧ Hid (∀ q, B ≤ q → q < w.heap.size → u.heap[q]? = w.heap[q]?)) (fun _ i _ => n - (intOf i).toNat)
  case atStart => exact ⟨0, Nat.zero_le _, rfl, rfl, o1, K0, Below.refl _ _, fun _ _ _ => rfl⟩
  case round =>
    clear o1 K0
    obtain ⟨k, hk, rfl, rfl, o1, K0, HB, FAR⟩ := hrel
    have hp := unhide hpre k (by rw [← unhide hn]; exact hk)
    by_cases hlt : k < n
    · have hkL : k < L.length := by rw [← unhide hn]; exact hlt
      obtain ⟨g, _, e1, _, _⟩ := own_at (unhide o1) (by omega)
      cases e1
      have hv : k < vs.length := by rw [unhide hln]; exact hkL
      have hgv := hide (List.getElem?_eq_getElem hv)
      have hgl := hide (List.getElem?_eq_getElem hkL)
      have oy := (unhide K0).todo k _ _ (Nat.le_refl _) (unhide hgv) (unhide hgl)
      have g0 : wr.cell? ⟨g, k, none⟩ = some vs[k] := by rw [(unhide o1).cellAt k (by omega), List.getElem?_eq_getElem hv]
      have hlk := unhide hl _ (List.getElem_mem hkL)
      have E := hide (markPointS_any vs[k] base L[k].length (1 + preN L k) _ (by omega) (by omega) wr oy)
      have eP : Hid ((1 + preN L k + L[k].length * 2 : Nat) = 1 + preN L (k + 1)) := by unfold Hid; simp only [preN, List.getD_eq_getElem?_getD, List.getElem?_eq_getElem hkL, Option.getD_some]; omega
      have S := hide (fun u' ys hg ho hr => Half2.step (u' := u') (ys := ys) (unhide K0) (unhide hup) (unhide hgv) (unhide hgl) hg ho hr)
      have T := hide (fun u' (hg : wr.grownBy u' vs[k].ownBlock) => (unhide o1).kept hg (rows_apart' (unhide o1) oy (by decide)))
      have Z := hide (fun u' (hg : wr.grownBy u' vs[k].ownBlock) => (unhide HB).grown hg (Nat.le_trans hs (unhide HB).size) (fun b hb => (oy.lt b hb).1))
      have F := hide (fun u' (hg : wr.grownBy u' vs[k].ownBlock) q (h1 : B ≤ q) (h2 : q < w.heap.size) => (hg.block q (Nat.lt_of_lt_of_le h2 (unhide HB).size) (fun e => absurd (unhide un _ (List.getElem_mem hv) q e.symm) (by omega))).trans (unhide FAR q h1 h2))
      obtain ⟨x, cx, ex⟩ := own_form oy
      rw [ex] at g0 E S T Z F
      rw [unhide eP] at E
      clear oy hlk ex eP hp hgv hgl
      generalize hq : ((1 + preN L (k + 1) : Nat) : Int) = Q at E
      replace hq := hide hq
      generalize hq0 : ((1 + preN L k : Nat) : Int) = Q0 at E ⊢
      clear hq0
      go_wp2_with fail
      go_fit (unhide E)
      rintro r w1 ⟨rfl, ⟨ys, ho, hr⟩, hg⟩
      have K1 := hide (unhide S _ _ hg ho hr)
      have o2 := hide (unhide T _ hg)
      have B2 := hide (unhide Z _ hg)
      have F2 := hide (unhide F _ hg)
      clear S T Z F ho hr hg g0
      go_wp2_with fail
      go_roundw
      case rel => exact ⟨k + 1, by omega, by go_num, by rw [← unhide hq], o2, K1, B2, F2⟩
      case measure => simp [intOf]; omega
    · have hke : k = n := by omega
      subst hke
      go_wp2_with fail
      go_ret
      exact ⟨rfl, unhide HB, unhide FAR⟩

/-- The lists of such a list, as arguments. -/
theorem LinesV.args {u : World} {base s N c : Nat} {ln : Nat → Nat} {pf : Nat → Nat → Pt} (h : LinesV u base (.slice (some ⟨s, 0, none⟩) N c) (linesN ln pf N)) : ∀ i, i < N → LArg u (some ⟨s, 0, none⟩) i (ln i) (pf i) := by
  obtain ⟨vs, o, k⟩ := h
  intro i hi
  have hv : i < vs.length := by rw [k.len, linesN_len]; exact hi
  have hl : (linesN ln pf N)[i]? = some (listN (pf i) (ln i)) := listN_get _ hi
  have ow := k.own i _ _ (List.getElem?_eq_getElem hv) hl
  obtain ⟨x, cx, ex⟩ := own_form ow
  rw [linesN_len] at o
  refine ⟨s, 0, x, cx, rfl, ?_, fun j hj => ?_⟩
  · rw [Nat.zero_add, o.cellAt _ (by omega), List.getElem?_eq_getElem hv, ex, listN_len]
  · rw [ex, listN_len] at ow
    exact own_pxa ow (px_listN _ _) j hj
end Go.Proofs.YtmofjlonmggpmaaTw

/-
  Lists of lists of points that a call hands back, and what later calls write.
-/
namespace Go.Proofs.YtmofjlonmggpmaaTw
open Go.RowKit
set_option linter.unusedVariables false

def LinesW (u : World) (base B : Nat) (v : Value) (L : List (List Pt)) : Prop := ∃ vs, u.ownsRow base 32 1 v L.length vs ∧ Lines u base vs L ∧ Under B (v :: vs)
theorem LinesV.bound {u : World} {base : Nat} {v : Value} {L : List (List Pt)} (h : LinesV u base v L) : LinesW u base u.heap.size v L := by
  obtain ⟨vs, h1, h2⟩ := h
  refine ⟨vs, h1, h2, fun x hx k hk => ?_⟩
  rcases List.mem_cons.1 hx with rfl | hx
  · exact (h1.lt k hk).2
  · exact Under.own h2 x hx k hk
theorem LinesW.v {u : World} {base B : Nat} {v : Value} {L : List (List Pt)} (h : LinesW u base B v L) : LinesV u base v L := let ⟨vs, h1, h2, _⟩ := h; ⟨vs, h1, h2⟩
theorem LinesW.next {u u' : World} {base B : Nat} {v : Value} {L : List (List Pt)} (h : LinesW u base B v L) (hb : Below u.heap.size u u') : LinesW u' base B v L :=
  let ⟨vs, h1, h2, h3⟩ := h; ⟨vs, own_below h1 hb, h2.next hb, h3⟩
theorem LinesW.part {u u' : World} {base B C : Nat} {v : Value} {L : List (List Pt)} (h : LinesW u base B v L) (hb : Below C u u') (hB : B ≤ C) : LinesW u' base B v L := by
  obtain ⟨vs, h1, h2, h3⟩ := h
  have h4 : Under C (v :: vs) := fun x hx k hk => Nat.lt_of_lt_of_le (h3 x hx k hk) hB
  exact ⟨vs, own_part h1 hb (h4 v (by simp)), h2.kept hb (fun x hx => h4 x (by simp [hx])), h3⟩
end Go.Proofs.YtmofjlonmggpmaaTw

/-
  The exact law of StrokeOf, over the twin.
-/
namespace Go.Proofs.YtmofjlonmggpmaaTw
open Go.RowKit
set_option linter.unusedVariables false

theorem quadW_len (W : Int) (a b : Pt) : (quadW W a b).length ≤ 4 := by unfold quadW quadC; split <;> simp
theorem stroke_small (W : Int) (N : Nat) (ln : Nat → Nat) (pf : Nat → Nat → Pt) : (strokeA W N ln pf).length ≤ 2 * sumLn ln N ∧ ∀ l ∈ strokeA W N ln pf, l.length ≤ 4 := by
  unfold strokeA
  split
  · refine ⟨strokeN_len W ln pf N, ?_⟩
    rw [strokeN_edges]
    intro l hl
    obtain ⟨e, _, h⟩ := List.mem_flatMap.1 hl
    unfold stepE at h
    rcases List.mem_append.1 h with h | h
    · split at h
      · rw [List.mem_singleton.1 h]; exact quadW_len _ _ _
      · cases h
    · split at h
      · rw [List.mem_singleton.1 h]; exact Nat.le_of_eq rfl
      · cases h
  · exact ⟨Nat.zero_le _, fun l h => by cases h⟩
theorem sumLn_is (f : Nat → Nat) : ∀ n, sumLn f n = sumN f n
  | 0 => rfl
  | n + 1 => by simp only [sumN, sumLn]; rw [sumLn_is f n]
/-- Rows of one's own are of their types. -/
theorem lines_ty {w : World} {base s N : Nat} {ln : Nat → Nat} {pf : Nat → Nat → Pt} (h : LinesV w base (.slice (some ⟨s, 0, none⟩) N N) (linesN ln pf N)) : (∀ i, i < N → LTy w (some ⟨s, 0, none⟩) i (ln i) (pf i)) ∧ OfTy w (some ⟨s, 0, none⟩) 32 := by
  obtain ⟨vs, h1, h2⟩ := h
  constructor
  · intro i hi
    have hv : i < vs.length := by rw [h2.len, linesN_len]; exact hi
    have hl : (linesN ln pf N)[i]? = some (listN (pf i) (ln i)) := listN_get _ hi
    have ow := h2.own i _ _ (List.getElem?_eq_getElem hv) hl
    obtain ⟨x, cx, ex⟩ := own_form ow
    rw [linesN_len] at h1
    rw [ex, listN_len] at ow
    refine ⟨s, 0, x, cx, rfl, ?_, fun j hj => own_pxa ow (px_listN _ _) j hj, ?_⟩
    · rw [Nat.zero_add, h1.cellAt _ (by omega), List.getElem?_eq_getElem hv, ex, listN_len]
    · rintro s' o' rfl
      rcases ow.2 with ⟨e, _⟩ | ⟨g, cap, cur, e, _, h3, _⟩
      · cases e
      · injection e with e _
        injection e with e
        injection e with e
        subst e
        exact ⟨cur, _, h3⟩
  · intro s' o' e
    injection e with e
    injection e with e1 e2
    subst e1 e2
    rcases h1.2 with ⟨e, _⟩ | ⟨g, cap, cur, e, _, h3, _⟩
    · cases e
    · injection e with e _
      injection e with e
      injection e with e
      subst e
      exact ⟨cur, _, h3⟩
/-- What lies behind stays, when lists ahead of it are marked. -/
theorem LinesW.far {u u' : World} {base B : Nat} {v : Value} {L : List (List Pt)} (h : LinesW u base B v L) (hs : ∀ q, base ≤ q → q < u.heap.size → u'.heap[q]? = u.heap[q]?) : LinesW u' base B v L := by
  obtain ⟨vs, h1, h2, h3⟩ := h
  have ap : ∀ {e s n : Nat} {y : Value} {ys : List Value}, u.ownsRow base e s y n ys → u'.ownsRow base e s y n ys := fun hy => own_same hy (fun k hk => hs k (hy.lt k hk).1 (hy.lt k hk).2)
  exact ⟨vs, ap h1, ⟨h2.len, fun i y l h4 h5 => ap (h2.own i y l h4 h5), h2.up⟩, h3⟩
set_option maxHeartbeats 16000000 in
set_option maxRecDepth 100000 in
theorem fnExactStrokeOf_walk (a0 : Option Addr) (len0 cap0 : Nat) (l0 : Nat → Nat) (z0 : Nat → Nat → Pt) (a1 : Int) (_ : (Lit.int .i64 a1).wf = true) (w : World) (w0 : len0 ≤ maxLen ∧ (∀ i, i < len0 → l0 i ≤ maxLen) ∧ ∀ i, i < len0 → LArg w a0 i (l0 i) (z0 i)) :
    Calls Tryt.prog 3 #[.slice a0 len0 cap0, .int .i64 a1] w fun r w' => r = .returned (.bool true) ∧ Below w.heap.size w w' := by
  obtain ⟨hm0, hm1, L⟩ := w0
  have Z := hide (szPointSS_any len0 l0 z0 hm0 hm1 a0 cap0 w L)
  by_cases hbig : 1048576 < len0 + sumN l0 len0
  · rw [if_pos hbig] at Z
    go_enter Tryt.func3, Try.ntmps3
    go_wp2_with fail
    go_fit (unhide Z)
    rintro r w1 ⟨rfl, rfl⟩
    go_wp2_with fail
    go_ret
    exact ⟨rfl, Below.refl _ _⟩
  rw [if_neg hbig] at Z
  have hn : len0 ≤ 1048576 := by omega
  have hl : ∀ i, i < len0 → l0 i ≤ 1048576 := fun i hi => by have := sumN_one l0 hi; omega
  have hpos : ¬ ((1048576 : Int) - ((len0 + sumN l0 len0 : Nat) : Int) < 0) := by omega
  have hsum : sumN l0 len0 ≤ 1048576 := by omega
  have hT : sumLn l0 len0 ≤ 2900000000000 := by rw [sumLn_is]; omega
  have TP := hide (fun u (hu : Below w.heap.size w u) => toPointSS_own len0 l0 z0 hn hl a0 cap0 u (fun i hi => (L i hi).next hu))
  have ES := hide (fun (a : Option Addr) (c : Nat) u h => specStrokeOf_any len0 l0 z0 (by omega) hl hT a c a1 u h)
  have EI := hide (fun (a : Option Addr) (c : Nat) u h h' => twStroke_any len0 l0 z0 (by omega) hl hT a c a1 u h h')
  have EP := hide (fun (a b : Option Addr) (c d : Nat) u h h' => eqPointSS_arg len0 l0 z0 hn hl a b c d u h h')
  have MP := hide (fun (u : World) (s base B : Nat) (hs : base ≤ u.heap.size) (h : LinesU u base B (.slice (some ⟨s, 0, none⟩) len0 len0) (linesN l0 z0 len0)) => markPointSS_far (linesN l0 z0 len0) (some ⟨s, 0, none⟩) len0 len0 base (linesN_len _ _ _).symm (by rw [linesN_len]; omega) (fun l hl' => by
    obtain ⟨i, hi, rfl⟩ := List.getElem_of_mem hl'
    have hi' : i < len0 := by rw [linesN_len] at hi; exact hi
    have e := listN_get (fun i => listN (z0 i) (l0 i)) hi'
    have e2 := List.getElem?_eq_getElem hi
    unfold linesN at e2
    rw [e] at e2
    injection e2 with e2
    unfold linesN
    rw [← e2, listN_len]; exact hl i hi') (fun i hi => by
    rw [linesN_len] at hi
    rw [preN_lines _ _ _ i hi]
    have : sumN l0 i ≤ sumN l0 len0 := sumN_le l0 hi
    omega) u hs B h)
  have hkk : ¬ (((1 + preN (linesN l0 z0 len0) len0 : Nat) : Int) < 0) := by omega
  generalize ((1 + preN (linesN l0 z0 len0) len0 : Nat) : Int) = kk at MP hkk
  obtain ⟨hLn, hLl⟩ := stroke_small a1 len0 l0 z0
  rw [sumLn_is] at hLn
  generalize strokeA a1 len0 l0 z0 = L at ES EI hLn hLl
  obtain ⟨N, hN⟩ : ∃ N, Hid (N = L.length) := ⟨_, rfl⟩
  have EL := hide (fun (a b : Option Addr) (c d base base' : Nat) (w : World) h h' => eqPointSS_any L a b N c d base base' (unhide hN) (by omega) (fun l hl => by have := hLl l hl; omega) w h h')
  have ML := hide (fun (a : Option Addr) (c base : Nat) (w : World) hs h => markPointSS_any L a N c base (unhide hN) (by omega) (fun l hl => by have := hLl l hl; omega) w hs h)
  have HL := hide (fun (a : Option Addr) (c base : Nat) (w : World) h => heldPointSS_any L a N c base (unhide hN) (by omega) (fun l hl => by have := hLl l hl; omega) w h)
  have hqq : ¬ (((1 + preN L N : Nat) : Int) < 0) := by omega
  generalize ((1 + preN L N : Nat) : Int) = Q at hqq ML HL
  generalize ((len0 + sumN l0 len0 : Nat) : Int) = TT at Z hpos
  clear hbig hm0 hm1 hsum hT hLn hLl
  have HB := hide (Below.refl w.heap.size w)
  go_enter Tryt.func3, Try.ntmps3
  go_wp2_with fail
  go_fit (unhide Z)
  rintro r u0 ⟨rfl, hu0⟩
  replace hu0 := hu0.symm
  subst hu0
  clear Z
  go_wp2_with fail
  -- the specification's answer
  go_fit (unhide TP _ (unhide HB))
  rintro r u1 ⟨s1, rfl, U1, hb1⟩
  have P1 := hide (U1.toV.args)
  replace HB := hide (below_two (unhide HB) hb1)
  clear U1 hb1
  go_wp2_with fail
  go_fit (unhide ES _ _ _ (unhide P1))
  rintro r u2 ⟨v, rfl, hl2, hb1⟩
  obtain ⟨al0, cl0, e1⟩ := hl2.form
  rw [← unhide hN] at e1
  subst e1
  have L0 := hide hl2.bound
  replace HB := hide (below_two (unhide HB) hb1)
  clear hl2 hb1 P1
  -- the program's arguments
  go_wp2_with fail
  go_fit (unhide TP _ (unhide HB))
  rintro r u3 ⟨s3, rfl, U3, hb1⟩
  have X0 := hide U3
  have gw3 := hide (show w.heap.size ≤ u2.heap.size from (unhide HB).size)
  have s23 := hide hb1.size
  replace L0 := hide ((unhide L0).next hb1)
  replace HB := hide (below_two (unhide HB) hb1)
  clear U3 hb1
  obtain ⟨b2, hb2⟩ : ∃ b, Hid (b = u2.heap.size) := ⟨_, rfl⟩
  obtain ⟨b3, hb3⟩ : ∃ b, Hid (b = u3.heap.size) := ⟨_, rfl⟩
  rw [← unhide hb2, ← unhide hb3] at X0 s23
  rw [← unhide hb2] at gw3 L0
  have TY := hide (lines_ty (unhide X0).toV)
  go_wp2_with fail
  go_fit (unhide EI _ _ _ (unhide TY).1 (unhide TY).2)
  rintro r u4 ⟨v, rfl, hl4, hb1⟩
  obtain ⟨al1, cl1, e1⟩ := hl4.form
  rw [← unhide hN] at e1
  subst e1
  have L1 := hide hl4.bound
  rw [← unhide hb3] at L1
  have s34 := hide (show b3 ≤ u4.heap.size by rw [unhide hb3]; exact hb1.size)
  replace L0 := hide ((unhide L0).next hb1)
  replace X0 := hide ((unhide X0).next hb1)
  replace HB := hide (below_two (unhide HB) hb1)
  obtain ⟨b4, hb4⟩ : ∃ b, Hid (b = u4.heap.size) := ⟨_, rfl⟩
  rw [← unhide hb4] at L1
  have s44 := hide (Nat.le_of_eq (unhide hb4))
  clear hl4 hb1 TY
  -- alike
  go_wp2_with fail
  go_fit (unhide EL _ _ _ _ _ _ _ (unhide L1).v (unhide L0).v)
  rintro r u5 ⟨rfl, hb1⟩
  replace L0 := hide ((unhide L0).next hb1)
  replace L1 := hide ((unhide L1).next hb1)
  replace X0 := hide ((unhide X0).next hb1)
  replace s44 := hide (Nat.le_trans (unhide s44) hb1.size)
  replace HB := hide (below_two (unhide HB) hb1)
  clear hb1
  go_wp2_with fail
  go_fit (unhide TP _ (unhide HB))
  rintro r u6 ⟨s6, rfl, U6, hb1⟩
  have P6 := hide (U6.toV.args)
  replace L0 := hide ((unhide L0).next hb1)
  replace L1 := hide ((unhide L1).next hb1)
  replace X0 := hide ((unhide X0).next hb1)
  replace s44 := hide (Nat.le_trans (unhide s44) hb1.size)
  replace HB := hide (below_two (unhide HB) hb1)
  clear U6 hb1
  have P0 := hide ((unhide X0).toV.args)
  go_wp2_with fail
  go_fit (unhide EP _ _ _ _ _ (unhide P0) (unhide P6))
  rintro r u7 ⟨rfl, hb1⟩
  replace L0 := hide ((unhide L0).next hb1)
  replace L1 := hide ((unhide L1).next hb1)
  replace X0 := hide ((unhide X0).next hb1)
  replace s44 := hide (Nat.le_trans (unhide s44) hb1.size)
  replace HB := hide (below_two (unhide HB) hb1)
  clear hb1 P0 P6
  -- the arguments are marked
  have sb2 := hide (show b2 ≤ u7.heap.size from Nat.le_trans (unhide s23) (Nat.le_trans (unhide s34) (Nat.le_trans (Nat.le_of_eq (unhide hb4).symm) (unhide s44))))
  go_wp2_with fail
  go_fit (unhide MP _ _ _ _ (unhide sb2) (unhide X0))
  rintro r u8 ⟨rfl, hbe, hfar⟩
  replace L0 := hide ((unhide L0).part hbe (Nat.le_refl _))
  replace L1 := hide ((unhide L1).far hfar)
  replace s44 := hide (Nat.le_trans (unhide s44) hbe.size)
  replace HB := hide ((unhide HB).trans (hbe.mono (unhide gw3)))
  clear hbe hfar X0
  go_wp2_with fail
  go_fit (unhide EL _ _ _ _ _ _ _ (unhide L1).v (unhide L0).v)
  rintro r u9 ⟨rfl, hb1⟩
  replace L0 := hide ((unhide L0).next hb1)
  replace L1 := hide ((unhide L1).next hb1)
  replace s44 := hide (Nat.le_trans (unhide s44) hb1.size)
  replace HB := hide (below_two (unhide HB) hb1)
  have s39 := hide (show b3 ≤ u9.heap.size from Nat.le_trans (unhide s34) (Nat.le_trans (Nat.le_of_eq (unhide hb4).symm) (unhide s44)))
  clear hb1
  go_wp2_with fail
  go_fit (unhide ML _ _ _ _ (unhide s39) (unhide L1).v)
  rintro r u10 ⟨rfl, hr, hb1⟩
  have R1 := hide hr
  replace L0 := hide ((unhide L0).part hb1 (unhide s23))
  replace HB := hide ((unhide HB).trans (hb1.mono (Nat.le_trans (unhide gw3) (unhide s23))))
  clear hb1 hr L1
  go_wp2_with fail
  go_fit (unhide HL _ _ _ _ (unhide R1))
  rintro r u11 ⟨rfl, hb1⟩
  replace L0 := hide ((unhide L0).next hb1)
  replace R1 := hide ((unhide R1).next hb1)
  replace HB := hide (below_two (unhide HB) hb1)
  clear hb1
  go_wp2_with fail
  go_fit (unhide TP _ (unhide HB))
  rintro r u12 ⟨s12, rfl, U12, hb1⟩
  have TY := hide (lines_ty U12.toV)
  replace L0 := hide ((unhide L0).next hb1)
  replace R1 := hide ((unhide R1).next hb1)
  replace HB := hide (below_two (unhide HB) hb1)
  clear U12 hb1
  go_wp2_with fail
  go_fit (unhide EI _ _ _ (unhide TY).1 (unhide TY).2)
  rintro r u13 ⟨v, rfl, hl4, hb1⟩
  obtain ⟨al2, cl2, e1⟩ := hl4.form
  rw [← unhide hN] at e1
  subst e1
  have L2 := hide hl4
  replace L0 := hide ((unhide L0).next hb1)
  replace R1 := hide ((unhide R1).next hb1)
  replace HB := hide (below_two (unhide HB) hb1)
  clear hl4 hb1 TY
  go_wp2_with fail
  go_fit (unhide EL _ _ _ _ _ _ _ (unhide L2) (unhide L0).v)
  rintro r u14 ⟨rfl, hb1⟩
  replace R1 := hide ((unhide R1).next hb1)
  replace HB := hide (below_two (unhide HB) hb1)
  clear hb1
  go_wp2_with fail
  go_fit (unhide HL _ _ _ _ (unhide R1))
  rintro r u15 ⟨rfl, hb1⟩
  replace HB := hide (below_two (unhide HB) hb1)
  go_wp2_with fail
  go_ret
  exact ⟨rfl, unhide HB⟩
end Go.Proofs.YtmofjlonmggpmaaTw

/-
  Flat structs of whole numbers that came in: their cells written out.
-/
namespace Go.Proofs.YtmofjlonmggpmaaTw
open Go.ChangeShapes Go.WideShapes

end Go.Proofs.YtmofjlonmggpmaaTw

/-
  Lists of points that came in: their cells written out.
-/
namespace Go.Proofs.YtmofjlonmggpmaaTw
open Go.ChangeShapes Go.WideShapes Go.RowKit

theorem open_points {H : Type} {enc : TypeId × Value → H} {P : Program} {w : World} {base : Nat} {sp : Nat → Bool} {held : Bool} {t e : TypeId} {f0 f1 : Field} {a : Option Addr} {n c fuel : Nat} {x : DataW H × List MemPlace}
    (ht : P.underlying t = some (.slice e)) (he : P.underlying e = some (.struct #[f0, f1])) (ce : P.cellsOf e = 2) (o0 : f0.offset = 0) (o1 : f1.offset = 1) (c0 : P.cellsOf f0.type = 1) (c1 : P.cellsOf f1.type = 1)
    (k0 : P.underlying f0.type = some (.int .i64)) (k1 : P.underlying f1.type = some (.int .i64))
    (h : DataW.trod enc P w base sp held fuel t [.slice a n c] = some x) :
    ∃ f : Nat → Int × Int, n ≤ maxLen ∧ ∀ i, i < n → PtArg w a i (f i) := by
  rcases Go.Deep.open_slice_pairs ht he ce o0 o1 c0 c1 h with ⟨hcs, _⟩ | ⟨b, len, cap, m, q, V0, V1, D0, D1, P0, P1, hcs, _, hl, hm, hmm, _, hx⟩
  · simp at hcs
    obtain ⟨rfl, rfl, rfl⟩ := hcs
    exact ⟨fun _ => (0, 0), by unfold maxLen; omega, fun i hi => absurd hi (by omega)⟩
  · simp at hcs
    obtain ⟨rfl, rfl, rfl⟩ := hcs
    have hnm : n ≤ m := by rw [hmm]; split <;> omega
    have each : ∀ i, i < n → ∃ p : Int × Int, PtArg w (some b) i p := by
      intro i hi
      obtain ⟨g0, g1, r0, r1⟩ := hx i (by omega)
      obtain ⟨z0, e0, _, _⟩ := DataW.trod_int k0 r0
      obtain ⟨z1, e1, _, _⟩ := DataW.trod_int k1 r1
      simp at e0 e1
      rw [e0] at g0
      rw [e1] at g1
      obtain ⟨bb, off, spot⟩ := b
      have hs := World.cell?_spot (hx 0 (by omega)).1
      have hspot : spot = none := by simpa [Addr.add] using hs
      subst hspot
      refine ⟨(z0, z1), bb, off, rfl, ?_, ?_⟩
      · by_cases hi0 : i = 0
        · subst hi0; simpa [Addr.add] using g0
        · have : i * 2 ≠ 0 := by omega
          rw [Addr.add, if_neg this] at g0; exact g0
      · simpa [Addr.add, Nat.add_assoc] using g1
    obtain ⟨f, hf⟩ := Go.Deep.choose_lt each
    exact ⟨f, by omega, hf⟩
end Go.Proofs.YtmofjlonmggpmaaTw

/-
  Paths that came in: their cells written out.
-/
namespace Go.Proofs.YtmofjlonmggpmaaTw
open Go.ChangeShapes Go.WideShapes Go.RowKit

theorem spot_none {w : World} {b : Addr} {v : Value} (h : w.cell? (b.add 0) = some v) : b.spot = none := by
  have hs := World.cell?_spot h
  simpa [Addr.add] using hs

theorem open_plist {H : Type} {enc : TypeId × Value → H} {P : Program} {w : World} {base : Nat} {sp : Nat → Bool} {held : Bool} {t e : TypeId} {f0 f1 : Field} {c : Value} {fuel : Nat} {x : DataW H × List MemPlace}
    (ht : P.underlying t = some (.slice e)) (he : P.underlying e = some (.struct #[f0, f1])) (ce : P.cellsOf e = 2) (o0 : f0.offset = 0) (o1 : f1.offset = 1) (c0 : P.cellsOf f0.type = 1) (c1 : P.cellsOf f1.type = 1)
    (k0 : P.underlying f0.type = some (.int .i64)) (k1 : P.underlying f1.type = some (.int .i64))
    (h : DataW.trod enc P w base sp held fuel t [c] = some x) :
    ∃ (a : Option Addr) (n cap : Nat) (f : Nat → Int × Int), c = .slice a n cap ∧ n ≤ maxLen ∧ ∀ i, i < n → PtArg w a i (f i) := by
  rcases Go.Deep.open_slice_pairs ht he ce o0 o1 c0 c1 h with ⟨hcs, _⟩ | ⟨b, len, cap, m, q, V0, V1, D0, D1, P0, P1, hcs, _, hl, hm, hmm, _, hx⟩
  · simp at hcs
    subst hcs
    obtain ⟨f, h1, h2⟩ := open_points ht he ce o0 o1 c0 c1 k0 k1 h
    exact ⟨_, _, _, f, rfl, h1, h2⟩
  · simp at hcs
    subst hcs
    obtain ⟨f, h1, h2⟩ := open_points ht he ce o0 o1 c0 c1 k0 k1 h
    exact ⟨_, _, _, f, rfl, h1, h2⟩

end Go.Proofs.YtmofjlonmggpmaaTw

/-
  Lists of lists of points that came in: their cells written out.
-/
namespace Go.Proofs.YtmofjlonmggpmaaTw
open Go.ChangeShapes Go.WideShapes Go.RowKit

theorem open_lines {H : Type} {enc : TypeId × Value → H} {P : Program} {w : World} {base : Nat} {sp : Nat → Bool} {held : Bool} {T t e : TypeId} {f0 f1 : Field} {a : Option Addr} {n c fuel : Nat} {x : DataW H × List MemPlace}
    (hT : P.underlying T = some (.slice t)) (cT : P.cellsOf t = 1)
    (ht : P.underlying t = some (.slice e)) (he : P.underlying e = some (.struct #[f0, f1])) (ce : P.cellsOf e = 2) (o0 : f0.offset = 0) (o1 : f1.offset = 1) (c0 : P.cellsOf f0.type = 1) (c1 : P.cellsOf f1.type = 1)
    (k0 : P.underlying f0.type = some (.int .i64)) (k1 : P.underlying f1.type = some (.int .i64))
    (h : DataW.trod enc P w base sp held fuel T [.slice a n c] = some x) :
    ∃ (ln : Nat → Nat) (pf : Nat → Nat → Pt), n ≤ maxLen ∧ (∀ i, i < n → ln i ≤ maxLen) ∧ ∀ i, i < n → LArg w a i (ln i) (pf i) := by
  rcases Go.Deep.open_slice1 hT cT h with ⟨hcs, _⟩ | ⟨b, len, cap, m, q, V, D, Pl, hcs, _, hl, hm, hmm, _, hx⟩
  · simp at hcs
    obtain ⟨rfl, rfl, rfl⟩ := hcs
    exact ⟨fun _ => 0, fun _ _ => (0, 0), by unfold maxLen; omega, fun i hi => absurd hi (by omega), fun i hi => absurd hi (by omega)⟩
  · simp at hcs
    obtain ⟨rfl, rfl, rfl⟩ := hcs
    have hnm : n ≤ m := by rw [hmm]; split <;> omega
    have each : ∀ i, i < n → ∃ z : Nat × (Nat → Pt), z.1 ≤ maxLen ∧ LArg w (some b) i z.1 z.2 := by
      intro i hi
      obtain ⟨g0, r0⟩ := hx i (by omega)
      obtain ⟨x, l, cx, f, e0, hl', hp⟩ := open_plist ht he ce o0 o1 c0 c1 k0 k1 r0
      rw [e0] at g0
      have hs := spot_none (hx 0 (by omega)).1
      obtain ⟨bb, off, spot⟩ := b
      dsimp only at hs
      subst hs
      have hadd : (⟨bb, off, none⟩ : Addr).add i = ⟨bb, off + i, none⟩ := by unfold Addr.add; split <;> simp_all
      rw [hadd] at g0
      exact ⟨(l, f), hl', bb, off, x, cx, rfl, g0, hp⟩
    obtain ⟨f, hf⟩ := Go.Deep.choose_lt each
    exact ⟨fun i => (f i).1, fun i => (f i).2, by omega, fun i hi => (hf i hi).1, fun i hi => (hf i hi).2⟩
end Go.Proofs.YtmofjlonmggpmaaTw

/-
  The sender's twin: all edges told as data.
-/
namespace Go.Proofs.YtmofjlonmggpmaaTw
open Go.RowKit Go.Goes
set_option linter.unusedVariables false

/-- Nothing is laid or changed. -/
def Same (w u : World) : Prop := Below w.heap.size w u ∧ u.heap.size = w.heap.size
theorem Same.drews {w u : World} (h : Same w u) (k : Nat) : Same w (u.drewN k) := ⟨below_drews h.1 k, h.2⟩
theorem edgesL_next (n : Nat) (f : Nat → Pt) (i : Nat) (h : 1 ≤ i) : edgesL n f (i + 1) = edgesL n f i ++ [edgeV (f (i - 1)) (f i) (decide (i < n - 1))] := by
  obtain ⟨j, rfl⟩ : ∃ j, i = j + 1 := ⟨i - 1, by omega⟩
  rfl
set_option maxHeartbeats 16000000 in
set_option maxRecDepth 100000 in
theorem twSends_any (N : Nat) (ln : Nat → Nat) (pf : Nat → Nat → Pt) (hN : N ≤ 4300000000000) (hl : ∀ i, i < N → ln i ≤ 1048576) (la : Option Addr) (lc : Nat) (c : Nat) (w : World) (HL : ∀ i, i < N → LArg w la i (ln i) (pf i)) :
    Calls Tryt.prog 78 #[.slice la N lc, .chan (some c)] w fun r w' => r = .returned (closedV c (edgesN ln pf N)) ∧ w'.heap.size = w.heap.size := by
  replace HL := hide HL
  have hend := hide (show ∀ A, A = encR c (edgesN ln pf N).reverse → Value.func (.func 1) #[] #[A, .chan (some c)] = closedV c (edgesN ln pf N) from fun A h => by rw [h]; rfl)
  go_enter Tryt.func78, Tryt.ntmps78
  go_wp2_with fail
  go_loopw [9, 37] (fun i v u => ∃ (q : Nat) (A : Value), q ≤ N ∧ i = .int .i64 q ∧ v = A ∧ Hid (A = encR c (edgesN ln pf q).reverse) ∧ Hid (Same w u)) (fun i _ _ => N - (intOf i).toNat)
  case atStart => exact ⟨0, _, Nat.zero_le _, rfl, rfl, rfl, Below.refl _ _, rfl⟩
  case round =>
    obtain ⟨q, A, hq, rfl, rfl, hA, hS⟩ := hrel
    by_cases hlt : q < N
    · have hlt' : (q : Int) < (N : Int) := by omega
      obtain ⟨s, o, z, c', hla, hc1, hc2⟩ := (unhide HL q hlt).next (unhide hS).1
      subst hla
      have hlq := hl q hlt
      have hnext := hide (show edgesN ln pf (q + 1) = edgesN ln pf q ++ edgesL (ln q) (pf q) (ln q) from rfl)
      have hP := hide (fun i (hi : i < ln q) => (unhide HL q hlt).choose_spec)
      clear hP
      obtain ⟨s', o', z', c2, e1, hd1, hd2⟩ := unhide HL q hlt
      have hz : z' = z := by
        injection e1 with e1
        injection e1 with e2 e3
        subst e2 e3
        have h1 := kc (unhide hS).1 hd1
        rw [h1] at hc1
        injection hc1 with hc1
        injection hc1
      subst hz
      have HP := hide (fun u (hu : Same w u) j (hj : j < ln q) => (hd2 j hj).next hu.1)
      clear hc2 hd1 hd2 e1
      generalize edgesN ln pf q = E0 at hA hnext
      generalize pf q = f at hnext HP
      generalize ln q = n at hnext HP hlq hc1
      go_upto_region 3 with fail
      go_wp2_with fail
      go_loopw [6, 37] (fun i v u => ∃ (m : Nat) (A : Value), 1 ≤ m ∧ (m ≤ n ∨ m = 1) ∧ i = .int .i64 m ∧ v = A ∧ Hid (A = encR c (E0 ++ edgesL n f m).reverse) ∧ Hid (Same w u)) (fun i _ _ => n - (intOf i).toNat)
      case atStart => exact ⟨1, _, Nat.le_refl _, .inr rfl, rfl, rfl, by rw [show edgesL n f 1 = [] from rfl, List.append_nil]; exact hA, hS⟩
      case round =>
        clear hA hS hc1
        obtain ⟨m, A, hm1, hm2, rfl, rfl, hA, hS⟩ := hrel
        by_cases hlm : m < n
        · have hlm' : (m : Int) < (n : Int) := by omega
          have HQ := unhide HP _ (unhide hS) m hlm
          have HQ0 := unhide HP _ (unhide hS) (m - 1) (by omega)
          have hEL := hide (edgesL_next n f m hm1)
          generalize f m = p1 at HQ hEL
          generalize f (m - 1) = p0 at HQ0 hEL
          obtain ⟨x0, y0⟩ := p0
          obtain ⟨x1, y1⟩ := p1
          obtain ⟨s, o, rfl, g0, g1⟩ := HQ0
          obtain ⟨s', o', e', g2, g3⟩ := HQ
          injection e' with e'
          injection e' with e1 e2
          subst e1 e2
          dsimp only at g0 g1 g2 g3
          have hw1 : IntKind.i64.wrap ((m : Int) - 1) = ((m - 1 : Nat) : Int) := by rw [IntWalk.i64_in _ (by omega)]; omega
          have hlm1 : ((m - 1 : Nat) : Int) < (n : Int) := by omega
          have hw2 : IntKind.i64.wrap ((n : Int) - 1) = (n : Int) - 1 := IntWalk.i64_in _ (by omega)
          have hd : decide ((m : Int) < (n : Int) - 1) = decide (m < n - 1) := by rw [decide_eq_decide]; omega
          go_upto_region 6 with fail
          go_quiet (fail)
          go_wp2_with fail
          go_roundw
          case rel => exact ⟨m + 1, _, by omega, .inl (by omega), by go_num, rfl, hide (by rw [unhide hEL, ← List.append_assoc, List.reverse_append, ← hd, unhide hA]; rfl), (unhide hS).drews _⟩
          case measure => simp [intOf]; omega
        · have hlm' : ¬ (m : Int) < (n : Int) := by omega
          have hEn := hide (show edgesL n f m = edgesL n f n by
            rcases hm2 with h | h
            · rw [show m = n by omega]
            · subst h
              have h2 : n = 0 ∨ n = 1 := by omega
              rcases h2 with h2 | h2 <;> rw [h2] <;> rfl)
          go_wp2_with fail
          go_roundw
          case rel => exact ⟨q + 1, _, by omega, by go_num, rfl, hide (by rw [unhide hnext, ← unhide hEn]; exact unhide hA), hS⟩
          case measure => simp [intOf]; omega
    · have hqe : q = N := by omega
      subst hqe
      have hlt' : ¬ (q : Int) < (q : Int) := by omega
      have hr := hide (unhide hend _ (unhide hA))
      go_wp2_with fail
      refine bodyPost_end (results_tmp rfl _ _ _) rfl ?_
      exact ⟨congrArg Ending.returned (unhide hr), (unhide hS).2⟩
end Go.Proofs.YtmofjlonmggpmaaTw

/-
  The stroke's goroutine, told: the program's good run out of a walk over the twin.
-/
namespace Go.Proofs.YtmofjlonmggpmaaTw
open Go.RowKit Go.Goes Go.Conc
set_option linter.unusedVariables false

theorem pt_arg {x : World} {p : Option Addr} {n : Nat} (h : ∀ i, i < n → PtAt x p i) : ∃ pf : Nat → Pt, ∀ i, i < n → PtArg x p i (pf i) := by
  have hq : ∀ i, ∃ q : Pt, i < n → PtArg x p i q := fun i => by
    by_cases hi : i < n
    · obtain ⟨a, X, Y, rfl, h1, h2⟩ := h i hi
      obtain ⟨a', X', Y', e, h3, _⟩ := h 0 (by omega)
      injection e with e
      subst e
      have hs : a.spot = none := spot_none (by rw [Nat.zero_mul, add_zero, add_zero] at h3; exact h3)
      obtain ⟨s, o, sp⟩ := a
      have hs' : sp = none := hs
      subst hs'
      rw [add_none, add_none] at h1 h2
      exact ⟨(X, Y), fun _ => ⟨s, o, rfl, h1, h2⟩⟩
    · exact ⟨(0, 0), fun h => absurd h hi⟩
  exact ⟨fun i => Classical.choose (hq i), fun i => Classical.choose_spec (hq i)⟩
theorem line_args {x : World} {p : Option Addr} {n : Nat} (h : ∀ j, j < n → LineAt x p j) : (∃ pf : Nat → Nat → Pt, ∀ i, i < n → LArg x p i (lnOf x p i) (pf i)) ∧ ∀ i, i < n → lnOf x p i ≤ 1048576 := by
  have hq : ∀ i, ∃ f : Nat → Pt, i < n → LArg x p i (lnOf x p i) f ∧ lnOf x p i ≤ 1048576 := fun i => by
    by_cases hi : i < n
    · obtain ⟨a, q, m, c, rfl, h1, h2, h3⟩ := h i hi
      obtain ⟨a', q', m', c', e, h4, _⟩ := h 0 (by omega)
      injection e with e
      subst e
      have hs : a.spot = none := spot_none (by rw [add_zero] at h4; exact h4)
      obtain ⟨s, o, sp⟩ := a
      have hs' : sp = none := hs
      subst hs'
      have hl : lnOf x (some ⟨s, o, none⟩) i = m := by unfold lnOf; dsimp only; rw [h1]
      rw [add_none] at h1
      obtain ⟨pf, hp⟩ := pt_arg h3
      unfold bigP at h2
      exact ⟨pf, fun _ => ⟨⟨s, o, q, c, rfl, by rw [hl]; exact h1, by rw [hl]; exact hp⟩, by rw [hl]; omega⟩⟩
    · exact ⟨fun _ => (0, 0), fun h => absurd h hi⟩
  exact ⟨⟨fun i => Classical.choose (hq i), fun i hi => (Classical.choose_spec (hq i) hi).1⟩, fun i hi => (Classical.choose_spec (hq i) hi).2⟩
theorem larg_ok {x w : World} (hO : Okc x.heap.size x w) {p : Option Addr} {i n : Nat} {pf : Nat → Pt} (h : LArg x p i n pf) : LArg w p i n pf :=
  let ⟨s, o, z, c, h1, h2, h3⟩ := h
  ⟨s, o, z, c, h1, okc_cell hO (cell_lt h2) h2, fun j hj => let ⟨s', o', g0, g1, g2⟩ := h3 j hj; ⟨s', o', g0, okc_cell hO (cell_lt g1) g1, okc_cell hO (cell_lt g2) g2⟩⟩
theorem sumN_is (f : Nat → Nat) : ∀ n, Goes.sumN f n = sumLn f n
  | 0 => rfl
  | n + 1 => by unfold Goes.sumN sumLn; rw [sumN_is f n]
/-- What the check shows of the lines is all that is asked of them. -/
theorem lines_ok (x : World) (p : Option Addr) (n cc : Nat) (width : Int) (h1 : (n : Int) < bigL) (h2 : (Goes.sumN (lnOf x p) n : Int) < bigS) (h3 : ∀ j, j < n → LineAt x p j) :
    ∃ aY vs0 Ok, Lines8 Tryt.old Tryt.funcs 70 Tryt.zero 25 74 77 #[.slice p n cc, .int .i64 width] #[.slice p n cc, .int .i64 width] x.heap.size (.slice p n cc) aY vs0 Ok ∧ Ok x := by
  obtain ⟨⟨pf, hL⟩, hl⟩ := line_args h3
  have hN : n ≤ 4300000000000 := by unfold bigL at h1; omega
  have hT : sumLn (lnOf x p) n ≤ 2900000000000 := by rw [← sumN_is]; unfold bigS at h2; omega
  refine ⟨.int .i64 0, edgesN (lnOf x p) pf n, Okc x.heap.size x, ⟨rfl, okc_V, okc_U, okc_B, fun x' hO => ?_, fun x' hO τ => ?_, fun u c hBc hO hch => ?_⟩, okc_refl _ _⟩
  · exact twAll_any n cc (lnOf x p) pf p hN hl (x'.re (fun _ _ => 0) 0) (fun i hi => larg_ok (w := x') hO (hL i hi))
  · exact twTwo_any n (lnOf x p) pf hN hl hT p cc width (x'.re τ 0) (fun i hi => larg_ok (w := x') hO (hL i hi))
  · have hc : c < u.heap.size := (Array.getElem?_eq_some_iff.1 hch).1
    refine sends_of (F := (· ∈ [78])) Tryt.noSteps Tryt.static (calmFns_of Tryt.calmZ) (List.mem_singleton.2 rfl) Tryt.sender Tryt.func78 rfl (show (2 : Nat) ≤ _ by decide) hBc hc (fun τ => ?_)
    refine (twSends_any n (lnOf x p) pf hN hl p cc c ((cutW u x.heap.size).re τ 0) (fun i hi => larg_ok (w := cutW u x.heap.size) (okc_B u _ (fun k hk => cutW_get hk) hO) (hL i hi))).mono ?_
    rintro r w' ⟨rfl, h⟩
    exact ⟨rfl, h.trans (cutW_size (by omega))⟩
set_option maxRecDepth 100000 in
/-- **The program's good run, from a walk over the twin.** -/
theorem good_of_twin {fsl ftl : List FuncId} (hT : Goes.Tw Tryt.old Tryt.funcs fsl 8) (hcalm : calmFnsB Tryt.prog ftl = true) (hsome : (fsl.all fun f => (Tryt.old.funcs[f]?).isSome) = true)
    {f : FuncId} {fn : Func} {r : Nat} (hf : f ∈ ftl) (hfs : f ∈ fsl) (hfS : f ≠ 8) (hfn : Tryt.old.funcs[f]? = some fn) (hres : fn.results = #[.tmp r]) (hinit : Tryt.old.inits.idxOf? f = none) {args : Array Value} {W : World} {Post : Value → World → Prop}
    (h : ∀ τ, Calls Tryt.prog f args (W.re τ 0) fun e W' => e = .returned (.bool true) ∧ Below W.heap.size (W.re τ 0) W')
    (hpost : ∀ u u', Below W.heap.size W u → u'.Alike u → Post (.bool true) u') :
    ∃ M last o w' t', runNT Tryt.old (M + 1) (solo (G (Frame.enter Tryt.old f args .normal) []) W) #[] = (.ended o w', t') ∧ runN Tryt.old M (solo (G (Frame.enter Tryt.old f args .normal) []) W) = .next last ∧ step Tryt.old last = .ended o w' ∧ Conc.Good Tryt.old Post last o w' t' := by
  refine good_of_ends (law_runs (fs := fsl) (S := 8) (FT := (· ∈ ftl)) (PostX := fun v x => v = .bool true ∧ ∃ τ, Below W.heap.size (W.re τ 0) x) Tryt.noSteps Tryt.static (calmFns_of hcalm) hT (fun f hf => List.all_eq_true.1 hsome f hf) ?_ hf hfs hfS hfn hres hinit ?_ (fun τ => (h τ).mono fun e W' ⟨he, hb⟩ => ⟨_, he, rfl, τ, hb⟩))
  · exact stroke_good (fsl := fsl) Tryt.base Tryt.real8 Tryt.parS Tryt.chkOp Tryt.ts Tryt.func75 (by rw [Tryt.is75]; rfl) (by rw [Tryt.is75]; rfl) (by rw [Tryt.is75]; rfl) Tryt.name75
      Tryt.func76 (by rw [Tryt.is76]; rfl) (by rw [Tryt.is76]; rfl) (by rw [Tryt.is76]; rfl) Tryt.name76 Tryt.func77 (by rw [Tryt.is77]; rfl) (by rw [Tryt.is77]; rfl) (by rw [Tryt.is77]; rfl) lines_ok
  · rintro v x u τ0 d0 ⟨rfl, τ, hb⟩ hV hL τ1 d1
    refine hpost { u with tape := W.tape } _ ⟨?_, rfl, ?_, ?_, fun k hk => ?_⟩ ⟨rfl, rfl, rfl⟩
    · exact hV.os.trans hb.os
    · exact hV.output.trans hb.output
    · exact Nat.le_trans hb.size (Nat.le_of_eq hV.size.symm)
    · have hx : x.heap[k]? = W.heap[k]? := hb.block k hk
      show u.heap[k]? = W.heap[k]?
      have ho := Array.getElem?_eq_getElem hk
      rw [ho] at hx
      obtain ⟨o', h1, h2⟩ := hV.block k _ hx
      cases e : W.heap[k] with
      | cells c t f =>
        rw [e] at h2 hx ho
        rcases h2 with h2 | ⟨_, _, _, _, _, _, _, h2, _⟩ | ⟨h2, _⟩
        · rw [h1, h2, ho]
        · cases h2
        · cases h2
      | _ => exact (hL k _ ho (fun c t f h => by rw [e] at h; cases h)).trans ho.symm
end Go.Proofs.YtmofjlonmggpmaaTw
