/-
  The program's rows of a mask, the bits of a square, a blank mask.
-/
import Derived.Test.YtmomgbnhildpdabMaskI
namespace Go.Proofs.Ytmomgbnhildpdab
open Go.RowKit
set_option linter.unusedVariables false

/-- Where a stretch of a row lies among the bits. -/
theorem stretch {a b c d y x0 x1 : Int} (hb : boxInB a b c d = true) (hy : b ≤ y ∧ y < d) (hx : a ≤ x0 ∧ x0 < x1 ∧ x1 ≤ c) :
    0 ≤ placeI a b c x0 y ∧ placeI a b c x1 y = placeI a b c x0 y + (x1 - x0) ∧ placeI a b c x0 y + (x1 - x0) ≤ ((sqN a b c d : Nat) : Int) := by
  have hin : ∀ x, a ≤ x → x < c → inBoxB a b c d x y = true := fun x h1 h2 => by
    unfold inBoxB
    rw [decide_eq_true (by omega), decide_eq_true (by omega), decide_eq_true (by omega), decide_eq_true (by omega)]; rfl
  have q1 := place_bd hb (hin x0 (by omega) (by omega))
  have q2 := place_bd hb (hin (x1 - 1) (by omega) (by omega))
  have e : ∀ x, placeI a b c x y = placeI a b c x0 y + (x - x0) := fun x => by unfold placeI; omega
  have e2 := e (x1 - 1)
  exact ⟨q1.1, e x1, by omega⟩

set_option maxHeartbeats 4000000 in
set_option maxRecDepth 100000 in
theorem implRowOf_any (a b c d y x0 x1 : Int) (s o n cp : Nat) (hb : boxInB a b c d = true) (hy : b ≤ y ∧ y < d) (hx : a ≤ x0 ∧ x0 < x1 ∧ x1 ≤ c) (hn : sqN a b c d = n) (hc : n ≤ cp) (w : World) :
    Calls Try.prog 81 #[.agg #[.int .i64 a, .int .i64 b, .int .i64 c, .int .i64 d, .slice (some ⟨s, o, none⟩) n cp], .int .i64 y, .int .i64 x0, .int .i64 x1] w fun r w' => r = .returned (.slice (some ⟨s, o + (placeI a b c x0 y).toNat, none⟩) (x1 - x0).toNat (x1 - x0).toNat) ∧ Below w.heap.size w w' := by
  obtain ⟨p1, p2, p3⟩ := stretch hb hy hx
  rw [hn] at p3
  obtain ⟨z1, z2, z3, z4, z5, z6, z7, z8⟩ := boxIn_iff.1 hb
  have hn3 : n ≤ 3600 := by rw [← hn]; exact (sqN_le hb).1
  obtain ⟨M, hM⟩ : ∃ M, M = (y - b) * (c - a) := ⟨_, rfl⟩
  have e1 : placeI a b c x0 y = M + x0 - a := by unfold placeI; rw [hM]
  have e2 : placeI a b c x1 y = M + x1 - a := by unfold placeI; rw [hM]
  obtain ⟨p, hp⟩ : ∃ p : Nat, placeI a b c x0 y = (p : Int) := ⟨(placeI a b c x0 y).toNat, by omega⟩
  obtain ⟨l, hl⟩ : ∃ l : Nat, (x1 - x0) = (l : Int) := ⟨(x1 - x0).toNat, by omega⟩
  have hl2 : (x1 - x0).toNat = l := by omega
  have hp2 : (placeI a b c x0 y).toNat = p := by omega
  have hl0 : 0 < l := by omega
  have hpl : p + l ≤ n := by omega
  rw [hl2, hp2]
  have v1 : IntKind.i64.wrap (y - b) = y - b := IntWalk.i64_in _ (by omega)
  have v2 : IntKind.i64.wrap (c - a) = c - a := IntWalk.i64_in _ (by omega)
  have v3 : IntKind.i64.wrap ((y - b) * (c - a)) = M := by rw [← hM]; exact IntWalk.i64_in _ (by omega)
  have v4 : IntKind.i64.wrap (M + x0) = M + x0 := IntWalk.i64_in _ (by omega)
  have v5 : IntKind.i64.wrap (M + x1) = M + x1 := IntWalk.i64_in _ (by omega)
  have v6 : IntKind.i64.wrap (M + x0 - a) = (p : Int) := by rw [← e1, hp]; exact IntWalk.i64_in _ (by omega)
  obtain ⟨q, hq⟩ : ∃ q : Nat, q = p + l := ⟨_, rfl⟩
  have v7 : IntKind.i64.wrap (M + x1 - a) = (q : Int) := by rw [← e2, p2, hp, hl, ← Int.natCast_add, ← hq]; exact IntWalk.i64_in _ (by omega)
  have k1 : q ≤ cp := by omega
  have k2 : p ≤ q := by omega
  have k3 : Hid (q - p = l) := by unfold Hid; omega
  have k4 : 0 < q - p := by omega
  clear hq hpl hl0 hM hb hy hx hn hp hl hl2 hp2 p1 p2 p3 e1 e2 z1 z2 z3 z4 z5 z6 z7 z8
  go_enter Try.func81, Try.ntmps81
  go_wp2_with fail
  go_quiet (fail)
  go_wp2_with fail
  go_ret
  exact ⟨by rw [unhide k3]; rfl, below_drews (al1_below _ _) _⟩

set_option maxHeartbeats 4000000 in
set_option maxRecDepth 100000 in
theorem implBitsIn_any (a b c d : Int) (f : Nat → Int) (ao : Option Addr) (n cp : Nat) (hn : n ≤ 1048576) (hc : n ≤ cp) (x y : Int) (hM : maskOkB a b c d n f = true) (w : World) (P : ∀ i, i < n → IntAt w ao i (f i)) :
    Calls Try.prog 59 #[.agg #[.int .i64 a, .int .i64 b, .int .i64 c, .int .i64 d, .slice ao n cp], .int .i64 x, .int .i64 y] w fun r w' => r = .returned (.int .i64 (atI a b c d f x y)) ∧ Below w.heap.size w w' := by
  have EI := hide (implInBox_any a b c d x y)
  have hA : Hid (atI a b c d f x y = if inBoxB a b c d x y = true then f (placeI a b c x y).toNat else 0) := rfl
  have hin : Hid (inBoxB a b c d x y = true → boxInB a b c d = true ∧ sqN a b c d = n ∧ 0 ≤ placeI a b c x y ∧ placeI a b c x y < (n : Int) ∧ (a ≤ x ∧ x < c ∧ b ≤ y ∧ y < d)) := fun h => by
    have hi := h
    simp only [inBoxB, Bool.and_eq_true, decide_eq_true_eq] at hi
    rcases maskOk_iff.1 hM with ⟨_, rfl, rfl, rfl, rfl⟩ | ⟨_, h1, h2, _⟩
    · omega
    · obtain ⟨p1, p2⟩ := place_bd h1 h
      exact ⟨h1, h2.symm, p1, by omega, hi⟩
  replace P := hide P
  clear hM
  generalize inBoxB a b c d x y = ib at EI hA hin
  generalize atI a b c d f x y = Z at hA ⊢
  go_enter Try.func59, Try.ntmps59
  go_upto_region 1 with fail
  have R := hide (new_row w (.cells #[.int .i64 a, .int .i64 b, .int .i64 c, .int .i64 d, .slice ao n cp] 44))
  have HB := hide (al1_below w (.cells #[.int .i64 a, .int .i64 b, .int .i64 c, .int .i64 d, .slice ao n cp] 44))
  obtain ⟨b1, hb1⟩ : ∃ b, Hid (b = w.heap.size) := ⟨_, rfl⟩
  rw [← unhide hb1] at R
  rw [← unhide hb1]
  generalize w.alloc (.cells #[.int .i64 a, .int .i64 b, .int .i64 c, .int .i64 d, .slice ao n cp] 44) = W at R HB ⊢
  obtain ⟨r0, r1, r2, r3, r4⟩ := row5m (unhide R)
  go_wp2_with fail
  go_fit (unhide EI _)
  rintro r u2 ⟨rfl, hb⟩
  replace R := hide (row_next hb (unhide R))
  replace HB := hide (below_two (unhide HB) hb)
  clear hb r0 r1 r2 r3 r4
  obtain ⟨r0, r1, r2, r3, r4⟩ := row5m (unhide R)
  cases ib with
  | false =>
    have hV : Hid (Z = 0) := by unfold Hid; rw [unhide hA]; rfl
    go_wp2_with fail
    go_ret
    exact ⟨ret_i (unhide hV).symm, unhide HB⟩
  | true =>
    obtain ⟨i1, i2, i3, i4, i5⟩ := unhide hin (by trivial)
    have hV : Hid (Z = f (placeI a b c x y).toNat) := by unfold Hid; rw [unhide hA]; rfl
    obtain ⟨p, hp⟩ : ∃ p, (placeI a b c x y).toNat = p := ⟨_, rfl⟩
    have hpn : p < n := by omega
    obtain ⟨s, o, rfl, g0⟩ := unhide P p hpn
    have ER := hide (implRowOf_any a b c d y x (x + 1) s o n cp i1 (by omega) (by omega) i2 hc)
    rw [hp, show (x + 1 - x).toNat = 1 by omega] at ER
    rw [hp] at hV
    have v1 : IntKind.i64.wrap (x + 1) = x + 1 := IntWalk.i64_in _ (by have := boxIn_iff.1 i1; omega)
    clear i1 i2 i3 i4 i5 hp hin hA
    obtain ⟨z, hz⟩ : ∃ z, Hid (f p = z) := ⟨_, rfl⟩
    rw [unhide hz] at g0 hV
    replace g0 := hide g0
    go_wp2_with fail
    go_fit (unhide ER _)
    rintro r u3 ⟨rfl, hb⟩
    replace HB := hide (below_two (unhide HB) hb)
    have g1 := kc (unhide HB) (unhide g0)
    clear hb r0 r1 r2 r3 r4 R
    go_wp2_with fail
    go_ret
    exact ⟨ret_i (unhide hV).symm, unhide HB⟩

set_option maxHeartbeats 4000000 in
set_option maxRecDepth 100000 in
theorem implBitsAt_any (a b c d : Int) (f : Nat → Int) (ao : Option Addr) (n cp : Nat) (hn : n ≤ 1048576) (hc : n ≤ cp) (x y : Int) (w : World) (P : ∀ i, i < n → IntAt w ao i (f i)) :
    Calls Try.prog 21 #[.agg #[.int .i64 a, .int .i64 b, .int .i64 c, .int .i64 d, .slice ao n cp], .int .i64 x, .int .i64 y] w fun r w' => r = .returned (.int .i64 (bitsI a b c d n f x y)) ∧ Below w.heap.size w w' := by
  have EK := hide (fun u (hu : Below w.heap.size w u) => implMaskOk_any a b c d f ao n cp hn u (fun i hi => (P i hi).next hu))
  have EI := hide (fun h u (hu : Below w.heap.size w u) => implBitsIn_any a b c d f ao n cp hn hc x y h u (fun i hi => (P i hi).next hu))
  have hB : Hid (bitsI a b c d n f x y = if maskOkB a b c d n f = true then atI a b c d f x y else 0) := rfl
  clear P
  generalize maskOkB a b c d n f = X at EK EI hB
  generalize atI a b c d f x y = V at EI hB
  generalize bitsI a b c d n f x y = Z at hB ⊢
  go_enter Try.func21, Try.ntmps21
  go_upto_region 1 with fail
  have R := hide (new_row w (.cells #[.int .i64 a, .int .i64 b, .int .i64 c, .int .i64 d, .slice ao n cp] 44))
  have HB := hide (al1_below w (.cells #[.int .i64 a, .int .i64 b, .int .i64 c, .int .i64 d, .slice ao n cp] 44))
  obtain ⟨b1, hb1⟩ : ∃ b, Hid (b = w.heap.size) := ⟨_, rfl⟩
  rw [← unhide hb1] at R
  rw [← unhide hb1]
  generalize w.alloc (.cells #[.int .i64 a, .int .i64 b, .int .i64 c, .int .i64 d, .slice ao n cp] 44) = W at R HB ⊢
  obtain ⟨r0, r1, r2, r3, r4⟩ := row5m (unhide R)
  go_wp2_with fail
  go_fit (unhide EK _ (unhide HB))
  rintro r u1 ⟨rfl, hb⟩
  replace R := hide (row_next hb (unhide R))
  replace HB := hide (below_two (unhide HB) hb)
  clear hb r0 r1 r2 r3 r4
  obtain ⟨r0, r1, r2, r3, r4⟩ := row5m (unhide R)
  cases X with
  | false =>
    have hZ : Hid (Z = 0) := by unfold Hid; rw [unhide hB]; rfl
    go_wp2_with fail
    go_ret
    exact ⟨ret_i (unhide hZ).symm, unhide HB⟩
  | true =>
    have hZ : Hid (Z = V) := by unfold Hid; rw [unhide hB]; rfl
    have EJ := hide (unhide EI (by trivial) _ (unhide HB))
    clear EI
    go_wp2_with fail
    go_fit (unhide EJ)
    rintro r u2 ⟨rfl, hb⟩
    replace HB := hide (below_two (unhide HB) hb)
    clear hb r0 r1 r2 r3 r4 R
    go_wp2_with fail
    go_ret
    exact ⟨ret_i (unhide hZ).symm, unhide HB⟩

/-- A mask of its own, while it is filled: its bits lie in block g. -/
def Blank (w : World) (r : Ending) (w' : World) (a b c d : Int) (N : Nat) : Prop :=
  ∃ g, r = .returned (.agg #[.int .i64 a, .int .i64 b, .int .i64 c, .int .i64 d, .slice (some ⟨g, 0, none⟩) N N]) ∧ w.heap.size ≤ g ∧ (∃ xs, w'.ownsRow g 3 1 (.slice (some ⟨g, 0, none⟩) N N) N xs ∧ IxAt xs (fun _ => 0) N) ∧ Below w.heap.size w w'
theorem made_nil (N : Nat) : IxAt (madeCells (Value.int .i64 0).cells (N * 1)).toList (fun _ => 0) N := by
  intro j hj
  simp [madeCells, Value.cells, hj, Nat.mod_one]

set_option maxHeartbeats 4000000 in
set_option maxRecDepth 100000 in
theorem implBlankMask_any (a b c d : Int) (N : Nat) (h1 : IntKind.i64.wrap (c - a) = c - a) (h2 : IntKind.i64.wrap (d - b) = d - b) (h3 : (N : Int) = (c - a) * (d - b)) (hN : N ≤ 3600) (w : World) :
    Calls Try.prog 66 #[.agg #[.int .i64 a, .int .i64 b, .int .i64 c, .int .i64 d]] w fun r w' => Blank w r w' a b c d N := by
  obtain ⟨i1, hi1, hz1, hs1, hb1⟩ := info_parts Try.info3
  have ES := hide (implSquaresIn_any a b c d N h1 h2 h3 hN)
  obtain ⟨M, hM⟩ : ∃ M, M = madeCells (Value.int .i64 0).cells (N * 1) := ⟨_, rfl⟩
  have hMx : Hid (IxAt M.toList (fun _ => 0) N) := by unfold Hid; rw [hM]; exact made_nil N
  have hMs : Hid (M.size = N * 1) := by unfold Hid; rw [hM]; exact size_madeCells _ _
  have hmk : ∀ W : World, (Instr.makeSlice 37 (.int .i64 (N : Int)) (.int .i64 (N : Int))).run Try.prog W = .ok (.slice (some ⟨W.heap.size, 0, none⟩) N N) (W.alloc (.cells M 3)) := by
    intro W
    have h := run_make (P := Try.prog) W 37 3 i1 (.int .i64 0) Try.underlying37 hi1 hz1 .i64 .i64 (N : Int) (N : Int) (by omega) (by omega) (by rw [hb1]; omega) (by omega)
    rw [hs1] at h
    simp only [Int.toNat_natCast] at h
    rw [← hM] at h
    exact h
  clear hM h1 h2 h3
  go_enter Try.func66, Try.ntmps66
  go_upto_region 1 with fail
  have R1 := hide (al2_0 w (.cells #[.int .i64 a, .int .i64 b, .int .i64 c, .int .i64 d] 42) (.cells #[.int .i64 0, .int .i64 0, .int .i64 0, .int .i64 0, .slice none 0 0] 44))
  have R2 := hide (al2_1 w (.cells #[.int .i64 a, .int .i64 b, .int .i64 c, .int .i64 d] 42) (.cells #[.int .i64 0, .int .i64 0, .int .i64 0, .int .i64 0, .slice none 0 0] 44))
  have HB := hide (al2_below w (.cells #[.int .i64 a, .int .i64 b, .int .i64 c, .int .i64 d] 42) (.cells #[.int .i64 0, .int .i64 0, .int .i64 0, .int .i64 0, .slice none 0 0] 44))
  obtain ⟨b2, hb2⟩ : ∃ b, Hid (b = w.heap.size + 1) := ⟨_, rfl⟩
  obtain ⟨b1, hb1'⟩ : ∃ b, Hid (b = w.heap.size) := ⟨_, rfl⟩
  have lz : Hid (w.heap.size ≤ b2 ∧ b1 < b2) := by unfold Hid; rw [unhide hb2, unhide hb1']; omega
  rw [← unhide hb2] at R2
  rw [← unhide hb1'] at R1
  rw [← unhide hb2, ← unhide hb1']
  generalize (w.alloc (.cells #[.int .i64 a, .int .i64 b, .int .i64 c, .int .i64 d] 42)).alloc (.cells #[.int .i64 0, .int .i64 0, .int .i64 0, .int .i64 0, .slice none 0 0] 44) = W at R1 R2 HB ⊢
  have l2 := hide (show b2 < W.heap.size from heap_lt (unhide R2))
  obtain ⟨q0, q1, q2, q3⟩ := row4 (unhide R1)
  clear hb2 hb1' hb1 hs1 hz1 hi1
  go_region_law (first | (refine step_call rfl 78 _ (by go_simp) (unhide ES _) ?_; rintro r w5 ⟨rfl, hb5⟩; refine ⟨_, rfl, ?_⟩; obtain ⟨z0, z1, z2, z3⟩ := row4 (row_next (below_undrew hb5) (unhide R1)); obtain ⟨y0, y1, y2, y3⟩ := row4 (row_next (al1_below w5 (.cells M 3)) (row_next (below_undrew hb5) (unhide R1))); obtain ⟨e0, e1, e2, e3, e4⟩ := row5m (row_next (al1_below w5 (.cells M 3)) (row_next (below_undrew hb5) (unhide R2))); obtain ⟨f0, f1, f2, f3, f4⟩ := frozen5 (row_next (al1_below w5 (.cells M 3)) (row_next (below_undrew hb5) (unhide R2))); replace hb5 := hide (below_undrew hb5)))
  all_goals
    go_wp2_with fail
    refine bodyPost_ret (v := .agg #[.int .i64 a, .int .i64 b, .int .i64 c, .int .i64 d, .slice (some ⟨w5.heap.size, 0, none⟩) N N]) (by simp [results, Try.results66, go_sem, e0, e1, e2, e3, e4]) rfl ?_
    exact ⟨w5.heap.size, rfl, by have := (unhide hb5).size; have := unhide lz; have := unhide l2; omega, ⟨_, own_put5 (World.ownsRow_lit w5 M N (Nat.le_refl _) (by unfold maxLen; omega) (unhide hMs)) (fun k hk => by simp [Value.ownBlock] at hk; have := unhide l2; have := (unhide hb5).size; omega) _ _ _ _ _, unhide hMx⟩, below_put5 (below_new _ (below_two (unhide HB) (unhide hb5)) (Nat.le_refl _)) (unhide lz).1 _ _ _ _ _⟩
end Go.Proofs.Ytmomgbnhildpdab
