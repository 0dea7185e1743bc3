/-
  MeetJ · MeetsX: texts of one claim, in one.
-/
import Derived.Test.YtmomgbnhildpdabFnMeetsM7
import Derived.Test.YtmomgbnhildpdabFnMeetsM4
import Derived.Test.YtmomgbnhildpdabFnMeetsM6

/-
  The program's MeetMask.
-/
namespace Go.Proofs.Ytmomgbnhildpdab
open Go.RowKit
set_option linter.unusedVariables false

theorem step_store {w u : World} {b2 b4 b6 g : Nat} {a b c d : Int} {N : Nat} {mf A : Nat → Int} {k0 W0 t : Nat} (h : ByS w u b2 b4 b6 g a b c d N (mixF mf A k0 W0 t)) (hw : w.heap.size ≤ g) (h2 : b2 < g) (h4 : b4 < g) (h6 : g < b6) (hk : k0 + t < N) (ht : t < W0) {z : Int} (hz : mf (k0 + t) = z) : ByS w (u.setCell ⟨g, k0 + t, none⟩ (.int .i64 z)) b2 b4 b6 g a b c d N (mixF mf A k0 W0 (t + 1)) := by
  obtain ⟨xs, o, x⟩ := h.own
  subst hz
  exact ⟨setc_other (by omega) h.box, setc_other (by omega) h.zero, setc_other (by omega) h.row, ⟨_, (o.stored _ _).1, ix_congr (ix_set x (by have := o.1; omega)) (fun i _ => mix_more mf A k0 W0 t i ht)⟩, h.bel.setCell (p := ⟨g, _, none⟩) hw _⟩

/-- 'copy' into a row that is known whole: what else stands stays. -/
theorem wpList_copy_grown {P : Program} {w : World} {ops : Array Oper} {rest : List Oper} {o : Oper} {a : Act} {Q : Exit → Act → World → Prop} (hgd : o.guard = none) (d s : Operand) (dT sT : TypeId)
    (ho : o.op = .call { callee := .builtin .copy, args := #[d, s], argTypes := #[dT, sT] }) (elem : TypeId) (hu : P.underlying dT = some (.slice elem)) (hsz : (P.info? elem).map (·.size) = some 1)
    (g off dLen dCap : Nat) (ad : Addr) (sLen sCap : Nat) (hd : a.eval d = .slice (some ⟨g, off, none⟩) dLen dCap) (hs : a.eval s = .slice (some ad) sLen sCap)
    (cur : List Value) (t : TypeId) (hg : w.heap[g]? = some (.cells cur.toArray t (0, 0))) (cs : List Value) (hn : cs.length = Nat.min sLen dLen)
    (hsrc : ∀ j v, cs[j]? = some v → w.cell? (ad.add j) = some v) (hfit : off + cs.length ≤ cur.length) (h1 : ∀ v ∈ cs, v.oneCell' = true)
    (h : ∀ w', Hid (w'.heap[g]? = some (.cells (splice cur off cs).toArray t (0, 0))) → Hid (w.grownBy w' (some g)) → wpList P ops Q rest (a.put o.dst (goInt cs.length)) w') : wpList P ops Q (o :: rest) a w := by
  refine wpList_copy_own hgd d s dT sT ho elem hu hsz g off dLen dCap ad sLen sCap hd hs cur.toArray t hg cs hn hsrc (by simpa using hfit) h1 ?_
  exact h _ (show _ = _ by simpa [splice] using setRow_heap w g _ _ t _ hg) (show World.grownBy _ _ _ from ⟨rfl, rfl, rfl, by simp [World.setRow], fun k _ hk => setRow_other w g k _ (by intro h; exact hk (by rw [h]))⟩)
theorem ByS.copied {w u u' : World} {b2 b4 b6 g : Nat} {a b c d : Int} {N : Nat} {mf A : Nat → Int} {k0 W0 : Nat} {xs : List Value} (h : ByS w u b2 b4 b6 g a b c d N (upto mf k0)) (hg : u.grownBy u' (some g)) (HG : u'.heap[g]? = some (.cells (splice xs k0 (cutV A W0)).toArray 3 (0, 0)))
    (hx : IxAt xs (upto mf k0) N) (hl : xs.length = N) (hk : k0 + W0 ≤ N) (hN : N ≤ maxLen) (hw : w.heap.size ≤ g) (h2 : b2 < g) (h4 : b4 < g) (h6 : g < b6) : ByS w u' b2 b4 b6 g a b c d N (mixF mf A k0 W0 0) :=
  ⟨(hg.block b2 (heap_lt h.box) (by intro e; cases e; omega)).trans h.box, (hg.block b4 (heap_lt h.zero) (by intro e; cases e; omega)).trans h.zero, (hg.block b6 (heap_lt h.row) (by intro e; cases e; omega)).trans h.row,
    ⟨_, own_of_block HG (by rw [length_splice _ _ _ (by rw [cutV_len]; omega)]; exact hl) hN, splice_ix hx hl hk⟩, h.bel.trans (below_of_grown hg h.bel.size (fun k hk => by cases hk; exact hw))⟩

set_option maxHeartbeats 16000000 in
set_option maxRecDepth 100000 in
theorem implMeetMask_any (a b c d : Int) (F : Nat → Int) (ao : Option Addr) (n ca : Nat) (hn : n ≤ 1048576) (hca : n ≤ ca) (e f g h : Int) (G : Nat → Int) (bo : Option Addr) (m cb : Nat) (hm : m ≤ 1048576) (hcb : m ≤ cb) (w : World) (PA : ∀ i, i < n → IntAt w ao i (F i)) (PB : ∀ i, i < m → IntAt w bo i (G i)) :
    Calls Try.prog 31 #[.agg #[.int .i64 a, .int .i64 b, .int .i64 c, .int .i64 d, .slice ao n ca], .agg #[.int .i64 e, .int .i64 f, .int .i64 g, .int .i64 h, .slice bo m cb]] w fun r w' => MeetRes w r w' (maskOkB a b c d n F && maskOkB e f g h m G) a b c d F e f g h G := by
  obtain ⟨i1, hi1, hz1, hs1, hb1⟩ := info_parts Try.info3
  have EA := hide (fun u (hu : Below w.heap.size w u) => implMaskOk_any a b c d F ao n ca hn u (fun i hi => (PA i hi).next hu))
  have EB := hide (fun u (hu : Below w.heap.size w u) => implMaskOk_any e f g h G bo m cb hm u (fun i hi => (PB i hi).next hu))
  have EM := hide (implMeetBox_any a b c d e f g h)
  replace PA := hide PA
  replace PB := hide PB
  have hRes : Hid (∀ r w', MeetRes w r w' (maskOkB a b c d n F && maskOkB e f g h m G) a b c d F e f g h G = MaskRes w r w' (boxV (maskOkB a b c d n F && maskOkB e f g h m G) (meet0 a b c d e f g h)) (boxV (maskOkB a b c d n F && maskOkB e f g h m G) (meet1 a b c d e f g h)) (boxV (maskOkB a b c d n F && maskOkB e f g h m G) (meet2 a b c d e f g h)) (boxV (maskOkB a b c d n F && maskOkB e f g h m G) (meet3 a b c d e f g h)) (boxK (maskOkB a b c d n F && maskOkB e f g h m G) (sqN (meet0 a b c d e f g h) (meet1 a b c d e f g h) (meet2 a b c d e f g h) (meet3 a b c d e f g h))) (meetF (meet0 a b c d e f g h) (meet1 a b c d e f g h) (meet2 a b c d e f g h) a b c d F e f g h G)) := fun _ _ => rfl
  have hK1 : Hid (maskOkB a b c d n F = true → MOk a b c d n F) := fun h => maskOk_iff.1 h
  have hK2 : Hid (maskOkB e f g h m G = true → MOk e f g h m G) := fun h => maskOk_iff.1 h
  have hNo : Hid (meetNo a b c d e f g h = true → meet0 a b c d e f g h = 0 ∧ meet1 a b c d e f g h = 0 ∧ meet2 a b c d e f g h = 0 ∧ meet3 a b c d e f g h = 0) := fun h => by
    unfold meet0 meet1 meet2 meet3; rw [h]; exact ⟨rfl, rfl, rfl, rfl⟩
  have hIn : Hid (∀ p0 p1 p2 p3, meetNo a b c d e f g h = false → MOk a b c d n F → MOk e f g h m G → meet0 a b c d e f g h = p0 → meet1 a b c d e f g h = p1 → meet2 a b c d e f g h = p2 → meet3 a b c d e f g h = p3 →
    boxInB p0 p1 p2 p3 = true ∧ (boxInB a b c d = true ∧ sqN a b c d = n ∧ 0 < n) ∧ (boxInB e f g h = true ∧ sqN e f g h = m ∧ 0 < m) ∧ (a ≤ p0 ∧ p2 ≤ c ∧ b ≤ p1 ∧ p3 ≤ d) ∧ (e ≤ p0 ∧ p2 ≤ g ∧ f ≤ p1 ∧ p3 ≤ h)) := fun p0 p1 p2 p3 h0 h1 h2 h3 h4 h5 h6 => meet_within h1 h2 h0 h3 h4 h5 h6
  obtain ⟨NO, hNO⟩ : ∃ NO, meetNo a b c d e f g h = NO := ⟨_, rfl⟩
  rw [hNO] at hNo hIn
  clear hNO
  obtain ⟨p0, e0⟩ : ∃ p0, meet0 a b c d e f g h = p0 := ⟨_, rfl⟩
  obtain ⟨p1, e1⟩ : ∃ p1, meet1 a b c d e f g h = p1 := ⟨_, rfl⟩
  obtain ⟨p2, e2⟩ : ∃ p2, meet2 a b c d e f g h = p2 := ⟨_, rfl⟩
  obtain ⟨p3, e3⟩ : ∃ p3, meet3 a b c d e f g h = p3 := ⟨_, rfl⟩
  rw [e0, e1, e2, e3] at EM hRes hNo
  have hIn2 := hide (fun h1 h2 h3 => unhide hIn p0 p1 p2 p3 h1 h2 h3 e0 e1 e2 e3)
  clear hIn e0 e1 e2 e3
  simp only [unhide hRes]
  clear hRes
  have EE := hide (implEmpty_any p0 p1 p2 p3)
  have hmf : Hid (∀ i, meetF p0 p1 p2 a b c d F e f g h G i = bothI (atI a b c d F (sqX p0 p2 i) (sqY p0 p1 p2 i)) (atI e f g h G (sqX p0 p2 i) (sqY p0 p1 p2 i))) := fun i => rfl
  generalize meetF p0 p1 p2 a b c d F e f g h G = mf at hmf ⊢
  generalize maskOkB a b c d n F = X at EA hK1 ⊢
  generalize maskOkB e f g h m G = Y at EB hK2 ⊢
  go_enter Try.func31, Try.ntmps31
  go_upto_region 1 with fail
  have R2 := hide (al3_0 w (.cells #[.int .i64 a, .int .i64 b, .int .i64 c, .int .i64 d, .slice ao n ca] 44) (.cells #[.int .i64 e, .int .i64 f, .int .i64 g, .int .i64 h, .slice bo m cb] 44) (.cells #[.int .i64 0, .int .i64 0, .int .i64 0, .int .i64 0, .slice none 0 0] 44))
  have R3 := hide (al3_1 w (.cells #[.int .i64 a, .int .i64 b, .int .i64 c, .int .i64 d, .slice ao n ca] 44) (.cells #[.int .i64 e, .int .i64 f, .int .i64 g, .int .i64 h, .slice bo m cb] 44) (.cells #[.int .i64 0, .int .i64 0, .int .i64 0, .int .i64 0, .slice none 0 0] 44))
  have R4 := hide (al3_2 w (.cells #[.int .i64 a, .int .i64 b, .int .i64 c, .int .i64 d, .slice ao n ca] 44) (.cells #[.int .i64 e, .int .i64 f, .int .i64 g, .int .i64 h, .slice bo m cb] 44) (.cells #[.int .i64 0, .int .i64 0, .int .i64 0, .int .i64 0, .slice none 0 0] 44))
  have HB := hide (al3_below w (.cells #[.int .i64 a, .int .i64 b, .int .i64 c, .int .i64 d, .slice ao n ca] 44) (.cells #[.int .i64 e, .int .i64 f, .int .i64 g, .int .i64 h, .slice bo m cb] 44) (.cells #[.int .i64 0, .int .i64 0, .int .i64 0, .int .i64 0, .slice none 0 0] 44))
  obtain ⟨b4, hb4⟩ : ∃ b, Hid (b = w.heap.size + 1 + 1) := ⟨_, rfl⟩
  obtain ⟨b3, hb3⟩ : ∃ b, Hid (b = w.heap.size + 1) := ⟨_, rfl⟩
  obtain ⟨b2, hb2⟩ : ∃ b, Hid (b = w.heap.size) := ⟨_, rfl⟩
  have lz : Hid (w.heap.size ≤ b4 ∧ b3 < b4 ∧ b2 < b4) := by unfold Hid; rw [unhide hb4, unhide hb3, unhide hb2]; omega
  rw [← unhide hb4] at R4
  rw [← unhide hb3] at R3
  rw [← unhide hb2] at R2
  rw [← unhide hb4, ← unhide hb3, ← unhide hb2]
  generalize ((w.alloc (.cells #[.int .i64 a, .int .i64 b, .int .i64 c, .int .i64 d, .slice ao n ca] 44)).alloc (.cells #[.int .i64 e, .int .i64 f, .int .i64 g, .int .i64 h, .slice bo m cb] 44)).alloc (.cells #[.int .i64 0, .int .i64 0, .int .i64 0, .int .i64 0, .slice none 0 0] 44) = W at R2 R3 R4 HB ⊢
  obtain ⟨q0, q1, q2, q3, q4⟩ := row5m (unhide R2)
  obtain ⟨s0, s1, s2, s3, s4⟩ := row5m (unhide R3)
  go_wp2_with fail
  go_fit (unhide EM _)
  rintro r w1 ⟨rfl, hb⟩
  replace R2 := hide (row_next hb (unhide R2))
  replace R3 := hide (row_next hb (unhide R3))
  replace R4 := hide (row_next hb (unhide R4))
  replace HB := hide (below_two (unhide HB) hb)
  clear hb q0 q1 q2 q3 q4 s0 s1 s2 s3 s4 EM
  go_upto_region 2 with fail
  have R5 := hide (new_row w1 (.cells #[.int .i64 p0, .int .i64 p1, .int .i64 p2, .int .i64 p3] 42))
  have hn1 := al1_below w1 (.cells #[.int .i64 p0, .int .i64 p1, .int .i64 p2, .int .i64 p3] 42)
  have l5 := hide (heap_lt (unhide R4))
  replace R2 := hide (row_next hn1 (unhide R2))
  replace R3 := hide (row_next hn1 (unhide R3))
  replace R4 := hide (row_next hn1 (unhide R4))
  replace HB := hide (below_two (unhide HB) hn1)
  clear hn1 hb4 hb3 hb2
  generalize w1.alloc (.cells #[.int .i64 p0, .int .i64 p1, .int .i64 p2, .int .i64 p3] 42) = W2 at R2 R3 R4 R5 HB ⊢
  generalize w1.heap.size = b5 at R5 l5 ⊢
  obtain ⟨q0, q1, q2, q3, q4⟩ := row5m (unhide R2)
  go_wp2_with fail
  go_fit (unhide EA _ (unhide HB))
  rintro r w3 ⟨rfl, hb⟩
  replace R2 := hide (row_next hb (unhide R2))
  replace R3 := hide (row_next hb (unhide R3))
  replace R4 := hide (row_next hb (unhide R4))
  replace R5 := hide (row_next hb (unhide R5))
  replace HB := hide (below_two (unhide HB) hb)
  clear hb q0 q1 q2 q3 q4 EA
  cases X with
  | false =>
    obtain ⟨z0, z1, z2, z3, z4⟩ := row5m (unhide R4)
    obtain ⟨f0, f1, f2, f3, f4⟩ := frozen5 (unhide R4)
    go_wp2_with fail
    refine bodyPost_ret (v := .agg #[.int .i64 0, .int .i64 0, .int .i64 0, .int .i64 0, .slice none 0 0]) (by simp [results, Try.results31, go_sem, z0, z1, z2, z3, z4]) rfl ?_
    exact mask_none (below_put5 (unhide HB) (unhide lz).1 _ _ _ _ _)
  | true =>
  obtain ⟨s0, s1, s2, s3, s4⟩ := row5m (unhide R3)
  go_wp2_with fail
  go_fit (unhide EB _ (unhide HB))
  rintro r w4 ⟨rfl, hb⟩
  replace R2 := hide (row_next hb (unhide R2))
  replace R3 := hide (row_next hb (unhide R3))
  replace R4 := hide (row_next hb (unhide R4))
  replace R5 := hide (row_next hb (unhide R5))
  replace HB := hide (below_two (unhide HB) hb)
  clear hb s0 s1 s2 s3 s4 EB
  cases Y with
  | false =>
    obtain ⟨z0, z1, z2, z3, z4⟩ := row5m (unhide R4)
    obtain ⟨f0, f1, f2, f3, f4⟩ := frozen5 (unhide R4)
    go_wp2_with fail
    refine bodyPost_ret (v := .agg #[.int .i64 0, .int .i64 0, .int .i64 0, .int .i64 0, .slice none 0 0]) (by simp [results, Try.results31, go_sem, z0, z1, z2, z3, z4]) rfl ?_
    exact mask_none (below_put5 (unhide HB) (unhide lz).1 _ _ _ _ _)
  | true =>
  have hK1' := hide (unhide hK1 (by trivial))
  have hK2' := hide (unhide hK2 (by trivial))
  clear hK1 hK2
  obtain ⟨q0, q1, q2, q3⟩ := row4 (unhide R5)
  go_wp2_with fail
  go_fit (unhide EE _)
  rintro r w5 ⟨rfl, hb⟩
  replace R2 := hide (row_next hb (unhide R2))
  replace R3 := hide (row_next hb (unhide R3))
  replace R4 := hide (row_next hb (unhide R4))
  replace R5 := hide (row_next hb (unhide R5))
  replace HB := hide (below_two (unhide HB) hb)
  clear hb q0 q1 q2 q3 EE
  cases NO with
  | true =>
    obtain ⟨rfl, rfl, rfl, rfl⟩ := unhide hNo rfl
    have hem : emptyB 0 0 0 0 = true := by decide
    rw [hem]
    obtain ⟨z0, z1, z2, z3, z4⟩ := row5m (unhide R4)
    obtain ⟨f0, f1, f2, f3, f4⟩ := frozen5 (unhide R4)
    go_wp2_with fail
    refine bodyPost_ret (v := .agg #[.int .i64 0, .int .i64 0, .int .i64 0, .int .i64 0, .slice none 0 0]) (by simp [results, Try.results31, go_sem, z0, z1, z2, z3, z4]) rfl ?_
    exact mask_none (below_put5 (unhide HB) (unhide lz).1 _ _ _ _ _)
  | false =>
  obtain ⟨hbi, ⟨ka1, ka2, ka3⟩, ⟨kb1, kb2, kb3⟩, wa, wb⟩ := unhide hIn2 rfl (unhide hK1') (unhide hK2')
  have hb0 := boxIn_iff.1 hbi
  have hem : emptyB p0 p1 p2 p3 = false := by unfold emptyB; rw [decide_eq_false (by omega), decide_eq_false (by omega)]; rfl
  rw [hem]
  have hsi := sqN_int hbi
  have hsl := (sqN_le hbi).1
  have EN := hide (implBlankMask_any p0 p1 p2 p3 (sqN p0 p1 p2 p3) (IntWalk.i64_in _ (by omega)) (IntWalk.i64_in _ (by omega)) hsi hsl)
  obtain ⟨W0, hW0⟩ : ∃ W0, W0 = wideN p0 p2 := ⟨_, rfl⟩
  obtain ⟨H0, hH0⟩ : ∃ H0, H0 = wideN p1 p3 := ⟨_, rfl⟩
  have hsq : sqN p0 p1 p2 p3 = H0 * W0 := by unfold sqN; rw [hW0, hH0, Nat.mul_comm]
  have hWi : (W0 : Int) = p2 - p0 := by rw [hW0]; unfold wideN; omega
  have hHi : (H0 : Int) = p3 - p1 := by rw [hH0]; unfold wideN; omega
  have hcW : (p2 - p0).toNat = W0 := by omega
  have ER := hide (fun (j : Nat) (hj : j < H0) (s : Nat) u => implRowOf_any p0 p1 p2 p3 (p1 + (j : Int)) p0 p2 s 0 (sqN p0 p1 p2 p3) (sqN p0 p1 p2 p3) hbi (by omega) (by omega) rfl (Nat.le_refl _) u)
  have ERA := hide (fun (j : Nat) (hj : j < H0) (s o : Nat) u => implRowOf_any a b c d (p1 + (j : Int)) p0 p2 s o n ca ka1 (by omega) (by omega) ka2 hca u)
  have ERB := hide (fun (j : Nat) (hj : j < H0) (s o : Nat) u => implRowOf_any e f g h (p1 + (j : Int)) p0 p2 s o m cb kb1 (by omega) (by omega) kb2 hcb u)
  rw [hcW] at ER ERA ERB
  have hrp := hide (fun j => row_place (b := p1) hWi j)
  -- what stands in a row of each
  have hRA : Hid (∀ j : Nat, j < H0 → (placeI a b c p0 (p1 + (j : Int))).toNat + W0 ≤ n ∧ ∀ t, t < W0 → atI a b c d F (p0 + (t : Int)) (p1 + (j : Int)) = F ((placeI a b c p0 (p1 + (j : Int))).toNat + t)) := fun j hj => by
    have hs := stretch (x0 := p0) (x1 := p2) (y := p1 + (j : Int)) ka1 (by omega) (by omega)
    rw [ka2] at hs
    exact ⟨by omega, fun t ht => at_place ka1 (by omega) (by omega)⟩
  have hRB : Hid (∀ j : Nat, j < H0 → (placeI e f g p0 (p1 + (j : Int))).toNat + W0 ≤ m ∧ ∀ t, t < W0 → atI e f g h G (p0 + (t : Int)) (p1 + (j : Int)) = G ((placeI e f g p0 (p1 + (j : Int))).toNat + t)) := fun j hj => by
    have hs := stretch (x0 := p0) (x1 := p2) (y := p1 + (j : Int)) kb1 (by omega) (by omega)
    rw [kb2] at hs
    exact ⟨by omega, fun t ht => at_place kb1 (by omega) (by omega)⟩
  have hat : Hid (∀ j t : Nat, t < W0 → mf (j * W0 + t) = bothI (atI a b c d F (p0 + (t : Int)) (p1 + (j : Int))) (atI e f g h G (p0 + (t : Int)) (p1 + (j : Int)))) := fun j t ht => by
    rw [unhide hmf, (sq_at (b := p1) hW0 ht).1, (sq_at (b := p1) hW0 ht).2]
  have hba := hide (fun x y => at_bd (unhide hK1') x y)
  have hbb := hide (fun x y => at_bd (unhide hK2') x y)
  obtain ⟨sa, oa, rfl, _⟩ := unhide PA 0 ka3
  obtain ⟨sb, ob, rfl, _⟩ := unhide PB 0 kb3
  have hWl : W0 ≤ 60 := by omega
  have hHl : H0 ≤ 60 := by omega
  generalize hM : sqN p0 p1 p2 p3 = M at EN ER hsq hsi hsl
  replace hsq := hide hsq
  replace hM := hide hM
  replace wa := hide wa
  replace wb := hide wb
  clear hmf hW0 hH0 hsi hbi hcW hIn2 hK1' hK2' hNo ka1 ka2 ka3 kb1 kb2 kb3 hem
  obtain ⟨q0, q1, q2, q3⟩ := row4 (unhide R5)
  go_wp2_with fail
  go_fit (unhide EN _)
  rintro r w6 ⟨gg, rfl, hg, own, hb⟩
  have BY := hide (ByS.begin (unhide R5) (unhide R4) (unhide HB) own hb)
  have lo := hide (show w.heap.size ≤ gg ∧ b5 < gg ∧ b4 < gg ∧ gg < w6.heap.size ∧ b2 < gg ∧ b3 < gg by
    have := heap_lt (unhide R5); have := heap_lt (unhide R4); have := heap_lt (unhide R2); have := heap_lt (unhide R3); have := (unhide HB).size
    obtain ⟨xs, o, _⟩ := own
    have := (o.lt gg rfl).2; omega)
  replace R2 := hide (row_next (al1_below _ (.cells #[.int .i64 p0, .int .i64 p1, .int .i64 p2, .int .i64 p3, .slice (some ⟨gg, 0, none⟩) M M] 44)) (row_next hb (unhide R2)))
  replace R3 := hide (row_next (al1_below _ (.cells #[.int .i64 p0, .int .i64 p1, .int .i64 p2, .int .i64 p3, .slice (some ⟨gg, 0, none⟩) M M] 44)) (row_next hb (unhide R3)))
  clear q0 q1 q2 q3 hg own hb R5 R4 HB l5 EN
  go_upto_region 5 with fail
  generalize w6.alloc (.cells #[.int .i64 p0, .int .i64 p1, .int .i64 p2, .int .i64 p3, .slice (some ⟨gg, 0, none⟩) M M] 44) = W7 at BY R2 R3 ⊢
  generalize w6.heap.size = b6 at BY lo ⊢
  obtain ⟨q0, q1, q2, q3⟩ := row4 (unhide BY).box
  go_upto_region 6 with fail
  clear q0 q1 q2 q3
  go_loopw [7] (fun y u => ∃ (j : Nat), j ≤ H0 ∧ y = .int .i64 (p1 + (j : Int)) ∧ Hid (ByS w u b5 b4 b6 gg p0 p1 p2 p3 M (upto mf (j * W0))) ∧ Hid (u.heap[b2]? = some (.cells #[.int .i64 a, .int .i64 b, .int .i64 c, .int .i64 d, .slice (some ⟨sa, oa, none⟩) n ca] 44 (0, 0))) ∧ Hid (u.heap[b3]? = some (.cells #[.int .i64 e, .int .i64 f, .int .i64 g, .int .i64 h, .slice (some ⟨sb, ob, none⟩) m cb] 44 (0, 0)))) (fun y _ => (p3 - intOf y).toNat)
  case atStart => exact ⟨0, Nat.zero_le _, congrArg (Value.int .i64) (by omega), (unhide BY).congr (fun i _ => by simp [upto]), R2, R3⟩
  case round =>
    clear BY R2 R3
    obtain ⟨j, hj, rfl, BY, R2, R3⟩ := hrel
    obtain ⟨q0, q1, q2, q3⟩ := row4 (unhide BY).box
    obtain ⟨s0, s1, s2, s3, s4⟩ := row5m (unhide BY).row
    by_cases hjl : j < H0
    · have hji : p1 + (j : Int) < p3 := by omega
      have ER1 := hide (unhide ER j hjl gg)
      rw [unhide hrp j] at ER1
      have ERA1 := hide (unhide ERA j hjl sa oa)
      have ERB1 := hide (unhide ERB j hjl sb ob)
      obtain ⟨la, hA⟩ := unhide hRA j hjl
      obtain ⟨lb, hB⟩ := unhide hRB j hjl
      replace hA := hide hA
      replace hB := hide hB
      generalize (placeI a b c p0 (p1 + (j : Int))).toNat = ia at la hA ERA1
      generalize (placeI e f g p0 (p1 + (j : Int))).toNat = ib at lb hB ERB1
      obtain ⟨k0, hk0⟩ : ∃ k0, Hid (k0 = j * W0) := ⟨_, rfl⟩
      have hkM : k0 + W0 ≤ M := by
        rw [unhide hk0, unhide hsq]
        have : j * W0 + W0 = (j + 1) * W0 := by rw [Nat.succ_mul]
        rw [this]; exact Nat.mul_le_mul_right _ hjl
      rw [← unhide hk0] at BY ER1
      have hat1 : Hid (∀ t, t < W0 → mf (k0 + t) = bothI (F (ia + t)) (G (ib + t)) ∧ (0 ≤ F (ia + t) ∧ F (ia + t) ≤ 15) ∧ (0 ≤ G (ib + t) ∧ G (ib + t) ≤ 15)) := fun t ht => by
        rw [unhide hk0, unhide hat j t ht, ← unhide hA t ht, ← unhide hB t ht]
        exact ⟨rfl, unhide hba _ _, unhide hbb _ _⟩
      clear hA hB
      go_wp2_with fail
      go_fit (unhide ER1 _)
      rintro r w7 ⟨rfl, hb⟩
      replace BY := hide ((unhide BY).next hb)
      replace R2 := hide (row_next hb (unhide R2))
      replace R3 := hide (row_next hb (unhide R3))
      clear hb q0 q1 q2 q3 s0 s1 s2 s3 s4 ER1
      obtain ⟨q0, q1, q2, q3⟩ := row4 (unhide BY).box
      obtain ⟨s0, s1, s2, s3, s4⟩ := row5m (unhide R2)
      go_wp2_with fail
      go_fit (unhide ERA1 _)
      rintro r w8 ⟨rfl, hb⟩
      replace BY := hide ((unhide BY).next hb)
      replace R2 := hide (row_next hb (unhide R2))
      replace R3 := hide (row_next hb (unhide R3))
      clear hb q0 q1 q2 q3 s0 s1 s2 s3 s4 ERA1
      obtain ⟨xs, o8, x8⟩ := (unhide BY).own
      obtain ⟨hg8, hl8⟩ := own_block o8
      have hcs : Hid (∀ i v, (cutV (fun t => F (ia + t)) W0)[i]? = some v → w8.cell? (Addr.add ⟨sa, oa + ia, none⟩ i) = some v) := fun i v hv => by
        have hi : i < W0 := by
          rcases Nat.lt_or_ge i W0 with hi | hi
          · exact hi
          · rw [List.getElem?_eq_none (by rw [cutV_len]; exact hi)] at hv; cases hv
        rw [cutV_get _ _ _ hi] at hv
        cases hv
        obtain ⟨s, o, hso, hc⟩ := (unhide PA (ia + i) (by omega)).next (unhide BY).bel
        cases hso
        cases i with
        | zero => simpa [Addr.add] using hc
        | succ i => simpa [Addr.add, Nat.add_assoc] using hc
      have BX := hide (fun u' hg HG => (unhide BY).copied (A := fun t => F (ia + t)) (u' := u') hg HG x8 hl8 hkM (by unfold maxLen; omega) (unhide lo).1 (unhide lo).2.1 (unhide lo).2.2.1 (unhide lo).2.2.2.1)
      obtain ⟨CS, hCS⟩ : ∃ CS, Hid (CS = cutV (fun t => F (ia + t)) W0) := ⟨_, rfl⟩
      have hCl : CS.length = W0 := by rw [unhide hCS]; exact cutV_len _ _
      have hC1 : Hid (∀ v ∈ CS, v.oneCell' = true) := by
        unfold Hid; rw [unhide hCS]
        intro v hv
        simp only [cutV, List.mem_map] at hv
        obtain ⟨z, _, rfl⟩ := hv
        rfl
      rw [← unhide hCS] at hcs BX
      replace hg8 := hide hg8
      replace hCl := hide hCl
      replace hl8 := hide hl8
      clear BY x8 o8
      go_upto_region 10 with (refine wpList_copy_grown rfl (.tmp 46) (.tmp 53) 37 37 rfl 3 Try.underlying37 (by rw [hi1]; simp [hs1]) gg k0 W0 W0 ⟨sa, oa + ia, none⟩ W0 W0 (by rfl) (by rfl) xs 3 (unhide hg8) CS (by rw [unhide hCl]; exact (Nat.min_self _).symm) (unhide hcs) (by rw [unhide hCl, unhide hl8]; exact hkM) (unhide hC1) ?_; intro w9 HG9 hg9)
      have BY := hide (unhide BX w9 (unhide hg9) (unhide HG9))
      replace R2 := hide (((unhide hg9).block b2 (heap_lt (unhide R2)) (by intro e; cases e; have := unhide lo; omega)).trans (unhide R2))
      replace R3 := hide (((unhide hg9).block b3 (heap_lt (unhide R3)) (by intro e; cases e; have := unhide lo; omega)).trans (unhide R3))
      clear BX HG9 hg9 hCS hCl hC1 hcs hg8 hl8
      obtain ⟨q0, q1, q2, q3⟩ := row4 (unhide BY).box
      obtain ⟨s0, s1, s2, s3, s4⟩ := row5m (unhide R3)
      go_wp2_with fail
      go_fit (unhide ERB1 _)
      rintro r w10 ⟨rfl, hb⟩
      replace BY := hide ((unhide BY).next hb)
      replace R2 := hide (row_next hb (unhide R2))
      replace R3 := hide (row_next hb (unhide R3))
      clear hb q0 q1 q2 q3 s0 s1 s2 s3 s4 ERB1
      go_upto_region 11 with fail
      go_loopw [63] (fun x u => ∃ (t : Nat), t ≤ W0 ∧ x = .int .i64 (t : Int) ∧ Hid (ByS w u b5 b4 b6 gg p0 p1 p2 p3 M (mixF mf (fun t => F (ia + t)) k0 W0 t)) ∧ Hid (u.heap[b2]? = some (.cells #[.int .i64 a, .int .i64 b, .int .i64 c, .int .i64 d, .slice (some ⟨sa, oa, none⟩) n ca] 44 (0, 0))) ∧ Hid (u.heap[b3]? = some (.cells #[.int .i64 e, .int .i64 f, .int .i64 g, .int .i64 h, .slice (some ⟨sb, ob, none⟩) m cb] 44 (0, 0)))) (fun x _ => W0 - (intOf x).toNat)
      case atStart => exact ⟨0, Nat.zero_le _, rfl, BY, R2, R3⟩
      case round =>
        clear BY R2 R3
        obtain ⟨t, ht, rfl, BY, R2, R3⟩ := hrel
        by_cases htl : t < W0
        · have hti : (t : Int) < (W0 : Int) := by omega
          obtain ⟨hz, bx, by'⟩ := unhide hat1 t htl
          have hkt : k0 + t < M := by omega
          obtain ⟨g0, g1⟩ := (unhide BY).cell hkt
          rw [mix_at _ _ _ _ _ htl] at g0
          obtain ⟨s, o, hso, g2⟩ := (unhide PB (ib + t) (by omega)).next (unhide BY).bel
          cases hso
          rw [← Nat.add_assoc] at g2
          rw [and_both bx by'] at hz
          generalize F (ia + t) = x at g0 hz
          generalize G (ib + t) = y at g2 hz
          replace hz := hide hz
          go_wp2_with fail
          go_roundw
          case rel => exact ⟨t + 1, by omega, by go_num, step_store (unhide BY) (unhide lo).1 (unhide lo).2.1 (unhide lo).2.2.1 (unhide lo).2.2.2.1 hkt htl (unhide hz), setc_other (by have := unhide lo; omega) (unhide R2), setc_other (by have := unhide lo; omega) (unhide R3)⟩
          case measure => simp [intOf]; omega
        · have hte : t = W0 := by omega
          subst hte
          have hti : ¬ (t : Int) < (t : Int) := by omega
          go_wp2_with fail
          go_roundw
          case rel => exact ⟨j + 1, by omega, congrArg (Value.int .i64) (by push_cast; omega), by rw [Nat.succ_mul, ← unhide hk0]; exact (unhide BY).congr (fun i _ => mix_end _ _ _ _ _), R2, R3⟩
          case measure => simp [intOf]; omega
    · have hje : j = H0 := by omega
      subst hje
      have hji : ¬ p1 + (j : Int) < p3 := by omega
      obtain ⟨z0, z1, z2, z3, z4⟩ := row5m (unhide BY).zero
      obtain ⟨f0, f1, f2, f3, f4⟩ := frozen5 (unhide BY).zero
      go_wp2_with fail
      refine bodyPost_ret (v := .agg #[.int .i64 p0, .int .i64 p1, .int .i64 p2, .int .i64 p3, .slice (some ⟨gg, 0, none⟩) M M]) (by simp [results, Try.results31, go_sem, z0, z1, z2, z3, z4]) rfl ?_
      rw [← unhide hsq] at BY
      show MaskRes _ _ _ p0 p1 p2 p3 (sqN p0 p1 p2 p3) _
      rw [unhide hM]
      exact maskRes_of (((unhide BY).congr upto_all).res (unhide lo).1 (unhide lz).1 (by have := unhide lo; omega))
end Go.Proofs.Ytmomgbnhildpdab

/-
  FnMeets, at the program's own contracts.
-/
namespace Go.Proofs.Ytmomgbnhildpdab
open Go.RowKit

theorem fnMeets_walk (a0 : Option Addr) (len0 cap0 : Nat) (z0 : List Int) (w : World) (w0 : IsRow .u8 w a0 len0 cap0 z0) :
    Calls Try.prog 7 #[.slice a0 len0 cap0] w fun e w' => e = .returned (.bool true) ∧ Below w.heap.size w w' :=
  fnMeets_of implMeetMask_any implMaskOk_any implBitsAt_any (drawMasks_of l11Mask_any) a0 len0 cap0 z0 w w0
end Go.Proofs.Ytmomgbnhildpdab
