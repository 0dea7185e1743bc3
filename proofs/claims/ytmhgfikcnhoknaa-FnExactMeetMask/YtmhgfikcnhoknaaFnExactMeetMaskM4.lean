/-
  MaskT · MaskMl · BoxI: texts of one claim, in one.
-/
import Derived.Test.YtmhgfikcnhoknaaFnExactMeetMaskM3
import Derived.Deep.RegionHeld3
import Derived.Deep.DeepCutAuto
import Derived.Deep.DeepFit
import Derived.Test.YtmhgfikcnhoknaaFnExactMeetMaskM2
import Derived.Test.YtmhgfikcnhoknaaFnExactMeetMaskM1

/-
  The specification's MeetMask.
-/
namespace Go.Proofs.Ytmhgfikcnhoknaa
open Go.RowKit
set_option linter.unusedVariables false

/-- The bits that two masks have at each square of a box. -/
def meetF (p0 p1 p2 : Int) (a b c d : Int) (F : Nat → Int) (e f g h : Int) (G : Nat → Int) (i : Nat) : Int := bothI (atI a b c d F (sqX p0 p2 i) (sqY p0 p1 p2 i)) (atI e f g h G (sqX p0 p2 i) (sqY p0 p1 p2 i))
/-- What two masks meet in. -/
def MeetRes (w : World) (r : Ending) (w' : World) (ok : Bool) (a b c d : Int) (F : Nat → Int) (e f g h : Int) (G : Nat → Int) : Prop :=
  MaskRes w r w' (boxV ok (meet0 a b c d e f g h)) (boxV ok (meet1 a b c d e f g h)) (boxV ok (meet2 a b c d e f g h)) (boxV ok (meet3 a b c d e f g h)) (boxK ok (sqN (meet0 a b c d e f g h) (meet1 a b c d e f g h) (meet2 a b c d e f g h) (meet3 a b c d e f g h))) (meetF (meet0 a b c d e f g h) (meet1 a b c d e f g h) (meet2 a b c d e f g h) a b c d F e f g h G)

set_option maxHeartbeats 8000000 in
set_option maxRecDepth 100000 in
theorem specMeetMask_any (a b c d : Int) (F : Nat → Int) (ao : Option Addr) (n ca : Nat) (hn : n ≤ 1048576) (e f g h : Int) (G : Nat → Int) (bo : Option Addr) (m cb : Nat) (hm : m ≤ 1048576) (w : World) (PA : ∀ i, i < n → IntAt w ao i (F i)) (PB : ∀ i, i < m → IntAt w bo i (G i)) :
    Calls Try.prog 7 #[.agg #[.int .i64 a, .int .i64 b, .int .i64 c, .int .i64 d, .slice ao n ca], .agg #[.int .i64 e, .int .i64 f, .int .i64 g, .int .i64 h, .slice bo m cb]] w fun r w' => MeetRes w r w' (maskOkB a b c d n F && maskOkB e f g h m G) a b c d F e f g h G := by
  obtain ⟨i1, hi1, hz1, hs1, hb1⟩ := info_parts Try.info3
  have EA := hide (fun u P => specMaskOk_any a b c d F ao n ca hn u P)
  have EB := hide (fun u P => specMaskOk_any e f g h G bo m cb hm u P)
  have EX := hide (specMeetBox_any a b c d e f g h)
  have ELA := hide (fun (hM : maskOkB a b c d n F = true) (x y : Int) u P => specL11Bits_any a b c d F ao n ca hn x y u P (maskOk_iff.1 hM))
  have ELB := hide (fun (hM : maskOkB e f g h m G = true) (x y : Int) u P => specL11Bits_any e f g h G bo m cb hm x y u P (maskOk_iff.1 hM))
  have hmi : Hid (maskOkB a b c d n F = true → maskOkB e f g h m G = true → ((meet0 a b c d e f g h = 0 ∧ meet1 a b c d e f g h = 0 ∧ meet2 a b c d e f g h = 0 ∧ meet3 a b c d e f g h = 0) ∨ boxInB (meet0 a b c d e f g h) (meet1 a b c d e f g h) (meet2 a b c d e f g h) (meet3 a b c d e f g h) = true) ∧ ∀ x y, (0 ≤ atI a b c d F x y ∧ atI a b c d F x y ≤ 15) ∧ (0 ≤ atI e f g h G x y ∧ atI e f g h G x y ≤ 15)) := fun h1 h2 => ⟨meet_in (maskOk_iff.1 h1) (maskOk_iff.1 h2), fun x y => ⟨at_bd (maskOk_iff.1 h1) x y, at_bd (maskOk_iff.1 h2) x y⟩⟩
  unfold MeetRes
  generalize maskOkB a b c d n F = oa at EA ELA hmi ⊢
  generalize maskOkB e f g h m G = ok at EB ELB hmi ⊢
  generalize meet0 a b c d e f g h = p0 at EX hmi ⊢
  generalize meet1 a b c d e f g h = p1 at EX hmi ⊢
  generalize meet2 a b c d e f g h = p2 at EX hmi ⊢
  generalize meet3 a b c d e f g h = p3 at EX hmi ⊢
  have hfm : Hid (∀ i, meetF p0 p1 p2 a b c d F e f g h G i = bothI (atI a b c d F (sqX p0 p2 i) (sqY p0 p1 p2 i)) (atI e f g h G (sqX p0 p2 i) (sqY p0 p1 p2 i))) := fun i => rfl
  generalize meetF p0 p1 p2 a b c d F e f g h G = mf at hfm ⊢
  generalize atI a b c d F = tA at ELA hmi hfm
  generalize atI e f g h G = tB at ELB hmi hfm
  replace PA := hide PA
  replace PB := hide PB
  obtain ⟨X, hX⟩ : ∃ X, Hid ((oa && ok) = X) := ⟨_, rfl⟩
  rw [unhide hX]
  obtain ⟨nn, hnn⟩ : ∃ nn, Hid (boxK X (sqN p0 p1 p2 p3) = nn) := ⟨_, rfl⟩
  rw [unhide hnn]
  obtain ⟨k0, hk0⟩ : ∃ k, Hid (boxV X p0 = k) := ⟨_, rfl⟩
  obtain ⟨k1, hk1⟩ : ∃ k, Hid (boxV X p1 = k) := ⟨_, rfl⟩
  obtain ⟨k2, hk2⟩ : ∃ k, Hid (boxV X p2 = k) := ⟨_, rfl⟩
  obtain ⟨k3, hk3⟩ : ∃ k, Hid (boxV X p3 = k) := ⟨_, rfl⟩
  rw [unhide hk0, unhide hk1, unhide hk2, unhide hk3]
  have hno : Hid (X = false → k0 = 0 ∧ k1 = 0 ∧ k2 = 0 ∧ k3 = 0 ∧ nn = 0) := fun hx => by
    subst hx; rw [← unhide hk0, ← unhide hk1, ← unhide hk2, ← unhide hk3, ← unhide hnn]; exact ⟨rfl, rfl, rfl, rfl, rfl⟩
  have hyes : Hid (X = true → k0 = p0 ∧ k1 = p1 ∧ k2 = p2 ∧ k3 = p3 ∧ nn = sqN p0 p1 p2 p3) := fun hx => by
    subst hx; rw [← unhide hk0, ← unhide hk1, ← unhide hk2, ← unhide hk3, ← unhide hnn]; exact ⟨rfl, rfl, rfl, rfl, rfl⟩
  clear hk0 hk1 hk2 hk3 hnn
  go_enter Try.func7, Try.ntmps7
  go_upto_region 1 with fail
  have R2 := hide (al3_0 w (.cells #[.int .i64 a, .int .i64 b, .int .i64 c, .int .i64 d, .slice ao n ca] 30) (.cells #[.int .i64 e, .int .i64 f, .int .i64 g, .int .i64 h, .slice bo m cb] 30) (.cells #[.int .i64 0, .int .i64 0, .int .i64 0, .int .i64 0, .slice none 0 0] 30))
  have R3 := hide (al3_1 w (.cells #[.int .i64 a, .int .i64 b, .int .i64 c, .int .i64 d, .slice ao n ca] 30) (.cells #[.int .i64 e, .int .i64 f, .int .i64 g, .int .i64 h, .slice bo m cb] 30) (.cells #[.int .i64 0, .int .i64 0, .int .i64 0, .int .i64 0, .slice none 0 0] 30))
  have R4 := hide (al3_2 w (.cells #[.int .i64 a, .int .i64 b, .int .i64 c, .int .i64 d, .slice ao n ca] 30) (.cells #[.int .i64 e, .int .i64 f, .int .i64 g, .int .i64 h, .slice bo m cb] 30) (.cells #[.int .i64 0, .int .i64 0, .int .i64 0, .int .i64 0, .slice none 0 0] 30))
  have HB := hide (al3_below w (.cells #[.int .i64 a, .int .i64 b, .int .i64 c, .int .i64 d, .slice ao n ca] 30) (.cells #[.int .i64 e, .int .i64 f, .int .i64 g, .int .i64 h, .slice bo m cb] 30) (.cells #[.int .i64 0, .int .i64 0, .int .i64 0, .int .i64 0, .slice none 0 0] 30))
  obtain ⟨b4, hb4⟩ : ∃ b, Hid (b = w.heap.size + 1 + 1) := ⟨_, rfl⟩
  obtain ⟨b3, hb3⟩ : ∃ b, Hid (b = w.heap.size + 1) := ⟨_, rfl⟩
  obtain ⟨b2, hb2⟩ : ∃ b, Hid (b = w.heap.size) := ⟨_, rfl⟩
  rw [← unhide hb4] at R4
  rw [← unhide hb3] at R3
  rw [← unhide hb2] at R2
  rw [← unhide hb4, ← unhide hb3, ← unhide hb2]
  generalize ((w.alloc (.cells #[.int .i64 a, .int .i64 b, .int .i64 c, .int .i64 d, .slice ao n ca] 30)).alloc (.cells #[.int .i64 e, .int .i64 f, .int .i64 g, .int .i64 h, .slice bo m cb] 30)).alloc (.cells #[.int .i64 0, .int .i64 0, .int .i64 0, .int .i64 0, .slice none 0 0] 30) = W at R2 R3 R4 HB ⊢
  have hwz := hide (show w.heap.size ≤ b4 by rw [unhide hb4]; omega)
  obtain ⟨q0, q1, q2, q3, q4⟩ := row5m (unhide R2)
  have EA1 := hide (unhide EA W (fun i hi => (unhide PA i hi).next (unhide HB)))
  clear EA
  go_wp2_with fail
  go_fit (unhide EA1)
  rintro r w1 ⟨rfl, hb⟩
  replace R2 := hide (row_next hb (unhide R2))
  replace R3 := hide (row_next hb (unhide R3))
  replace R4 := hide (row_next hb (unhide R4))
  replace HB := hide (below_two (unhide HB) hb)
  clear hb q0 q1 q2 q3 q4 EA1
  cases oa with
  | false =>
    obtain ⟨rfl, rfl, rfl, rfl, rfl⟩ := unhide hno (by rw [← unhide hX]; rfl)
    obtain ⟨e0, e1, e2, e3, e4⟩ := row5m (unhide R4)
    obtain ⟨f0, f1, f2, f3, f4⟩ := frozen5 (unhide R4)
    go_wp2_with fail
    refine bodyPost_ret (v := .agg #[.int .i64 0, .int .i64 0, .int .i64 0, .int .i64 0, .slice none 0 0]) (by simp [results, Try.results7, go_sem, e0, e1, e2, e3, e4]) rfl ?_
    exact mask_none (below_put5 (unhide HB) (unhide hwz) _ _ _ _ _)
  | true =>
  obtain ⟨q0, q1, q2, q3, q4⟩ := row5m (unhide R3)
  have EB1 := hide (unhide EB w1 (fun i hi => (unhide PB i hi).next (unhide HB)))
  clear EB
  go_wp2_with fail
  go_fit (unhide EB1)
  rintro r w2 ⟨rfl, hb⟩
  replace R2 := hide (row_next hb (unhide R2))
  replace R3 := hide (row_next hb (unhide R3))
  replace R4 := hide (row_next hb (unhide R4))
  replace HB := hide (below_two (unhide HB) hb)
  clear hb q0 q1 q2 q3 q4 EB1
  cases ok with
  | false =>
    obtain ⟨rfl, rfl, rfl, rfl, rfl⟩ := unhide hno (by rw [← unhide hX]; rfl)
    obtain ⟨e0, e1, e2, e3, e4⟩ := row5m (unhide R4)
    obtain ⟨f0, f1, f2, f3, f4⟩ := frozen5 (unhide R4)
    go_wp2_with fail
    refine bodyPost_ret (v := .agg #[.int .i64 0, .int .i64 0, .int .i64 0, .int .i64 0, .slice none 0 0]) (by simp [results, Try.results7, go_sem, e0, e1, e2, e3, e4]) rfl ?_
    exact mask_none (below_put5 (unhide HB) (unhide hwz) _ _ _ _ _)
  | true =>
  obtain ⟨rfl, rfl, rfl, rfl, hnn⟩ := unhide hyes (by rw [← unhide hX]; rfl)
  obtain ⟨hpi, hbd⟩ := unhide hmi (by trivial) (by trivial)
  replace hbd := hide hbd
  clear hno hyes hX hmi
  obtain ⟨W0, hW0⟩ : ∃ W0, W0 = wideN k0 k2 := ⟨_, rfl⟩
  obtain ⟨H0, hH0⟩ : ∃ H0, H0 = wideN k1 k3 := ⟨_, rfl⟩
  have hsq : nn = H0 * W0 := by rw [hnn]; unfold sqN; rw [hW0, hH0, Nat.mul_comm]
  subst hsq
  have hpb : k0 ≤ k2 ∧ k1 ≤ k3 ∧ -2000 ≤ k0 ∧ -2000 ≤ k1 ∧ k2 ≤ 2000 ∧ k3 ≤ 2000 ∧ k2 - k0 ≤ 60 ∧ k3 - k1 ≤ 60 := by
    rcases hpi with ⟨rfl, rfl, rfl, rfl⟩ | hpi
    · omega
    · rw [boxIn_iff] at hpi; omega
  have hWi : (W0 : Int) = k2 - k0 := by rw [hW0]; unfold wideN; omega
  have hHi : (H0 : Int) = k3 - k1 := by rw [hH0]; unfold wideN; omega
  have hat : Hid (∀ j t : Nat, t < W0 → mf (j * W0 + t) = bothI (tA (k0 + (t : Int)) (k1 + (j : Int))) (tB (k0 + (t : Int)) (k1 + (j : Int)))) := fun j t ht => by
    rw [unhide hfm, (sq_at (b := k1) hW0 ht).1, (sq_at (b := k1) hW0 ht).2]
  have hWl : W0 ≤ 60 := by omega
  have hHl : H0 ≤ 60 := by omega
  clear hfm hW0 hH0 hpi hnn
  obtain ⟨q0, q1, q2, q3, q4⟩ := row5m (unhide R2)
  obtain ⟨t0, t1, t2, t3, t4⟩ := row5m (unhide R3)
  go_wp2_with fail
  go_fit (unhide EX _)
  rintro r w3 ⟨rfl, hb⟩
  replace R2 := hide (row_next hb (unhide R2))
  replace R3 := hide (row_next hb (unhide R3))
  replace R4 := hide (row_next hb (unhide R4))
  replace HB := hide (below_two (unhide HB) hb)
  clear hb q0 q1 q2 q3 q4 t0 t1 t2 t3 t4 EX
  go_upto_region 4 with fail
  have R7 := hide (new_row w3 (.cells #[.int .i64 k0, .int .i64 k1, .int .i64 k2, .int .i64 k3, .slice none 0 0] 30))
  have hn1 := al1_below w3 (.cells #[.int .i64 k0, .int .i64 k1, .int .i64 k2, .int .i64 k3, .slice none 0 0] 30)
  have l2 := hide (show b2 < w3.heap.size from heap_lt (unhide R2))
  have l3 := hide (show b3 < w3.heap.size from heap_lt (unhide R3))
  have l4 := hide (show b4 < w3.heap.size from heap_lt (unhide R4))
  have lw := hide (show w.heap.size ≤ w3.heap.size from (unhide HB).size)
  replace R2 := hide (row_next hn1 (unhide R2))
  replace R3 := hide (row_next hn1 (unhide R3))
  replace R4 := hide (row_next hn1 (unhide R4))
  replace HB := hide (below_two (unhide HB) hn1)
  have sz := hide (show (w3.alloc (.cells #[.int .i64 k0, .int .i64 k1, .int .i64 k2, .int .i64 k3, .slice none 0 0] 30)).heap.size = w3.heap.size + 1 by simp)
  clear hn1
  generalize w3.alloc (.cells #[.int .i64 k0, .int .i64 k1, .int .i64 k2, .int .i64 k3, .slice none 0 0] 30) = W3 at R2 R3 R4 R7 HB sz ⊢
  generalize w3.heap.size = ob at R7 l2 l3 l4 lw sz ⊢
  have GR := hide (show Grow w W3 b4 ob k0 k1 k2 k3 mf 0 none 0 from ⟨unhide R4, unhide R7, World.ownsRow_nil _ _ _ _, unhide HB, by rw [unhide sz]; exact Nat.le_refl _⟩)
  clear R4 R7 HB sz
  obtain ⟨q0, q1, q2, q3, q4⟩ := row5m (unhide GR).row
  go_upto_region 5 with fail
  clear q0 q1 q2 q3 q4
  go_loopw [6] (fun y u => ∃ (j : Nat) (p : Option Addr) (cp : Nat), j ≤ H0 ∧ y = .int .i64 (k1 + (j : Int)) ∧ Hid (Grow w u b4 ob k0 k1 k2 k3 mf (j * W0) p cp) ∧ Hid (u.heap[b2]? = some (.cells #[.int .i64 a, .int .i64 b, .int .i64 c, .int .i64 d, .slice ao n ca] 30 (0, 0))) ∧ Hid (u.heap[b3]? = some (.cells #[.int .i64 e, .int .i64 f, .int .i64 g, .int .i64 h, .slice bo m cb] 30 (0, 0)))) (fun y _ => (k3 - intOf y).toNat)
  case atStart => exact ⟨0, none, 0, Nat.zero_le _, by simp, by rw [Nat.zero_mul]; exact GR, R2, R3⟩
  case round =>
    clear GR R2 R3
    obtain ⟨j, p, cp, hj, rfl, GR, R2, R3⟩ := hrel
    obtain ⟨q0, q1, q2, q3, q4⟩ := row5m (unhide GR).row
    by_cases hlt : j < H0
    · have hji : k1 + (j : Int) < k3 := by omega
      have wj : IntKind.i64.wrap (k1 + (j : Int) + 1) = k1 + (j : Int) + 1 := IntWalk.i64_in _ (by omega)
      go_upto_region 8 with fail
      clear q0 q1 q2 q3 q4
      go_loopw [7] (fun x u => ∃ (t : Nat) (p : Option Addr) (cp : Nat), t ≤ W0 ∧ x = .int .i64 (k0 + (t : Int)) ∧ Hid (Grow w u b4 ob k0 k1 k2 k3 mf (j * W0 + t) p cp) ∧ Hid (u.heap[b2]? = some (.cells #[.int .i64 a, .int .i64 b, .int .i64 c, .int .i64 d, .slice ao n ca] 30 (0, 0))) ∧ Hid (u.heap[b3]? = some (.cells #[.int .i64 e, .int .i64 f, .int .i64 g, .int .i64 h, .slice bo m cb] 30 (0, 0)))) (fun x _ => (k2 - intOf x).toNat)
      case atStart => exact ⟨0, p, cp, Nat.zero_le _, by simp, GR, R2, R3⟩
      case round =>
        clear GR R2 R3
        obtain ⟨t, p, cp, ht, rfl, GR, R2, R3⟩ := hrel
        obtain ⟨q0, q1, q2, q3, q4⟩ := row5m (unhide GR).row
        by_cases hlt' : t < W0
        · have hti : k0 + (t : Int) < k2 := by omega
          have wt : IntKind.i64.wrap (k0 + (t : Int) + 1) = k0 + (t : Int) + 1 := IntWalk.i64_in _ (by omega)
          have hk : j * W0 + t ≤ 1048576 := by
            have : j * W0 ≤ 60 * 60 := Nat.mul_le_mul (by omega) hWl
            omega
          have hz := hide (unhide hat j t hlt')
          have EA1 := hide (fun u (hu : Below wr.heap.size wr u) => unhide ELA (by trivial) (k0 + (t : Int)) (k1 + (j : Int)) u (fun i hi => ((unhide PA i hi).next (unhide GR).bel).next hu))
          have EB1 := hide (fun u (hu : Below wr.heap.size wr u) => unhide ELB (by trivial) (k0 + (t : Int)) (k1 + (j : Int)) u (fun i hi => ((unhide PB i hi).next (unhide GR).bel).next hu))
          obtain ⟨hba, hbb⟩ := unhide hbd (k0 + (t : Int)) (k1 + (j : Int))
          generalize tA (k0 + (t : Int)) (k1 + (j : Int)) = zA at hz EA1 hba
          generalize tB (k0 + (t : Int)) (k1 + (j : Int)) = zB at hz EB1 hbb
          have EC := hide (specL11Both_any zA zB hba hbb)
          generalize bothI zA zB = z at hz EC
          clear hba hbb
          obtain ⟨k, hkk⟩ : ∃ k, Hid (k = j * W0 + t) := ⟨_, rfl⟩
          rw [← unhide hkk] at GR hk hz
          replace hk := hide hk
          obtain ⟨c0, c1, c2, c3, c4⟩ := row5m (unhide GR).row
          go_upto_region 10 with fail
          clear q0 q1 q2 q3 q4 c0 c1 c2 c3
          obtain ⟨q0, q1, q2, q3, q4⟩ := row5m (unhide R2)
          obtain ⟨t0, t1, t2, t3, t4⟩ := row5m (unhide R3)
          go_region_law (first | (refine step_call rfl 27 _ (by go_simp) (unhide EA1 _ (Below.refl _ _).drew) ?_; rintro r w5 ⟨rfl, hb5⟩; refine ⟨_, rfl, ?_⟩; have y4 := kc hb5 c4; have s0 := kc hb5 t0; have s1 := kc hb5 t1; have s2 := kc hb5 t2; have s3 := kc hb5 t3; have s4 := kc hb5 t4; have D5 := hide (show Below wr.heap.size wr w5 from below_undrew hb5)) | (refine step_call rfl 27 _ (by go_simp) (unhide EB1 _ (unhide D5)) ?_; rintro r w6 ⟨rfl, hb6⟩; refine ⟨_, rfl, ?_⟩; have z4 := kc hb6 y4; have z5 := kn (.cells #[.int .i64 z] 3) z4; have D6 := hide (below_two (unhide D5) hb6)) | (refine step_append_i (w5 := w6) (wr := wr) rfl _ _ 24 rfl (ob + 1) i1 (.int .i64 0) Try.underlying24 hi1 hz1 hs1 hb1 rfl (.slice p k cp) k ((listN mf k).map Iv) (by rfl) z 1 (by rfl) (unhide GR).own (unhide hk) (unhide GR).size (unhide D6) ?_; intro v' w8 O8 D8; obtain ⟨p', cp', rfl⟩ := own_form O8; obtain ⟨g0, g1, g2, g3, g4⟩ := row5m ((D8.block ob (Nat.lt_succ_self _)).trans (unhide GR).row); obtain ⟨f0, f1, f2, f3, f4⟩ := frozen5 ((D8.block ob (Nat.lt_succ_self _)).trans (unhide GR).row); replace O8 := hide O8; replace D8 := hide D8) | (refine step_call rfl 26 _ (by go_simp) (unhide EC _) ?_; rintro r w7 ⟨rfl, h7⟩; rw [h7]; clear h7 w7; refine ⟨_, rfl, ?_⟩))
          all_goals
            have S2 := hide (setc_other (b := ob) (j := 4) (v := .slice p' (k + 1) cp') (by have := unhide l2; omega) (((unhide D8).block b2 (by have := unhide l2; omega)).trans (unhide R2)))
            have S3 := hide (setc_other (b := ob) (j := 4) (v := .slice p' (k + 1) cp') (by have := unhide l3; omega) (((unhide D8).block b3 (by have := unhide l3; omega)).trans (unhide R3)))
            have G8 := hide ((unhide GR).put (unhide lw) (unhide l4) (unhide hz) (unhide O8) (unhide D8))
            clear z4 z5 y4 s0 s1 s2 s3 s4 g0 g1 g2 g3 f0 f1 f2 f3 c4 q0 q1 q2 q3 q4 t0 t1 t2 t3 t4
            go_wp2_with fail
            go_roundw
            case rel => exact ⟨t + 1, p', cp', by omega, congrArg (Value.int .i64) (by push_cast; omega), by rw [show j * W0 + (t + 1) = k + 1 by rw [unhide hkk]; omega]; exact G8, S2, S3⟩
            case measure => simp [intOf]; omega
        · have hte : t = W0 := by omega
          subst hte
          have hti : ¬ k0 + (t : Int) < k2 := by omega
          go_wp2_with fail
          go_roundw
          case rel => exact ⟨j + 1, p, cp, by omega, congrArg (Value.int .i64) (by push_cast; omega), by rw [Nat.succ_mul]; exact GR, R2, R3⟩
          case measure => simp [intOf]; omega
    · have hje : j = H0 := by omega
      subst hje
      have hji : ¬ k1 + (j : Int) < k3 := by omega
      obtain ⟨e0, e1, e2, e3, e4⟩ := row5m (unhide GR).zero
      obtain ⟨f0, f1, f2, f3, f4⟩ := frozen5 (unhide GR).zero
      go_wp2_with fail
      refine bodyPost_ret (v := .agg #[.int .i64 k0, .int .i64 k1, .int .i64 k2, .int .i64 k3, .slice p (j * W0) cp]) (by simp [results, Try.results7, go_sem, e0, e1, e2, e3, e4]) rfl ?_
      exact (unhide GR).res (unhide hwz) (unhide l4)
end Go.Proofs.Ytmhgfikcnhoknaa

/-
  The exact law of MeetMask, from what the program's function answers. (By meetlaw.py.)
-/
namespace Go.Proofs.Ytmhgfikcnhoknaa
open Go.RowKit
set_option linter.unusedVariables false

theorem meet_len {a b c d e f g h : Int} {n m : Nat} {F G : Nat → Int} : boxK (maskOkB a b c d n F && maskOkB e f g h m G) (sqN (meet0 a b c d e f g h) (meet1 a b c d e f g h) (meet2 a b c d e f g h) (meet3 a b c d e f g h)) ≤ 1048576 := by
  unfold boxK
  split
  · rename_i hk
    rw [Bool.and_eq_true] at hk
    rcases meet_in (maskOk_iff.1 hk.1) (maskOk_iff.1 hk.2) with ⟨h0, h1, h2, h3⟩ | hb
    · rw [h0, h1, h2, h3]; decide
    · have := (sqN_le hb).1; omega
  · omega

set_option maxHeartbeats 16000000 in
set_option maxRecDepth 100000 in
theorem fnExactMeetMask_of (EI : ∀ (a b c d : Int) (F : Nat → Int) (ao : Option Addr) (n ca : Nat) (hn : n ≤ 1048576) (hca : n ≤ ca) (e f g h : Int) (G : Nat → Int) (bo : Option Addr) (m cb : Nat) (hm : m ≤ 1048576) (hcb : m ≤ cb) (w : World) (PA : ∀ i, i < n → IntAt w ao i (F i)) (PB : ∀ i, i < m → IntAt w bo i (G i)), Calls Try.prog 9 #[.agg #[.int .i64 a, .int .i64 b, .int .i64 c, .int .i64 d, .slice ao n ca], .agg #[.int .i64 e, .int .i64 f, .int .i64 g, .int .i64 h, .slice bo m cb]] w fun r w' => MeetRes w r w' (maskOkB a b c d n F && maskOkB e f g h m G) a b c d F e f g h G)
    (a b c d : Int) (ao : Option Addr) (n ca : Nat) (F : Nat → Int) (e f g h : Int) (bo : Option Addr) (m cb : Nat) (G : Nat → Int) (w : World) (hA : n ≤ maxLen ∧ ∀ i, i < n → IntAt w ao i (F i)) (hB : m ≤ maxLen ∧ ∀ i, i < m → IntAt w bo i (G i)) :
    Calls Try.prog 3 #[.agg #[.int .i64 a, .int .i64 b, .int .i64 c, .int .i64 d, .slice ao n ca], .agg #[.int .i64 e, .int .i64 f, .int .i64 g, .int .i64 h, .slice bo m cb]] w fun r w' => r = .returned (.bool true) ∧ Below w.heap.size w w' := by
  obtain ⟨hmA, PA⟩ := hA
  obtain ⟨hmB, PB⟩ := hB
  have Z := hide (szMask_any a b c d ao n ca 1048576 (by omega) hmA)
  by_cases hbig : (1048576 : Int) < (n : Int)
  · rw [if_pos hbig] at Z
    go_enter Try.func3, Try.ntmps3
    go_wp2_with fail
    go_fit (unhide Z _)
    rintro r w1 ⟨rfl, hb⟩
    go_wp2_with fail
    go_ret
    exact ⟨rfl, below_two (al2_below _ _ _) hb⟩
  rw [if_neg hbig] at Z
  have hpos : ¬ ((1048576 : Int) - (n : Int) < 0) := by omega
  have hn : n ≤ 1048576 := by omega
  have Z2 := hide (szMask_any e f g h bo m cb (1048576 - (n : Int)) (by omega) hmB)
  by_cases hbig2 : (1048576 : Int) - (n : Int) < (m : Int)
  · rw [if_pos hbig2] at Z2
    go_enter Try.func3, Try.ntmps3
    go_wp2_with fail
    go_fit (unhide Z _)
    rintro r w1 ⟨rfl, hb⟩
    obtain ⟨q0, q1, q2, q3, q4⟩ := row5m (row_next hb (al2_1 w (.cells #[.int .i64 a, .int .i64 b, .int .i64 c, .int .i64 d, .slice ao n ca] 26) (.cells #[.int .i64 e, .int .i64 f, .int .i64 g, .int .i64 h, .slice bo m cb] 26)))
    go_wp2_with fail
    go_fit (unhide Z2 _)
    rintro r w2 ⟨rfl, hb2⟩
    go_wp2_with fail
    go_ret
    exact ⟨rfl, below_two (below_two (al2_below _ _ _) hb) hb2⟩
  rw [if_neg hbig2] at Z2
  have hpos2 : ¬ ((1048576 : Int) - (n : Int) - (m : Int) < 0) := by omega
  have hm : m ≤ 1048576 := by omega
  have TA := hide (fun u (hu : Below w.heap.size w u) => toMask_any a b c d F ao n ca hn u (fun i hi => (PA i hi).next hu))
  have TB := hide (fun u (hu : Below w.heap.size w u) => toMask_any e f g h G bo m cb hm u (fun i hi => (PB i hi).next hu))
  have S := hide (fun (u : World) (s t base base' : Nat) (h1 : IntsV u base (.slice (some ⟨s, 0, none⟩) n n) n F) (h2 : IntsV u base' (.slice (some ⟨t, 0, none⟩) m m) m G) => specMeetMask_any a b c d F (some ⟨s, 0, none⟩) n n hn e f g h G (some ⟨t, 0, none⟩) m m hm u h1.ints h2.ints)
  have I := hide (fun (u : World) (s t base base' : Nat) (h1 : IntsV u base (.slice (some ⟨s, 0, none⟩) n n) n F) (h2 : IntsV u base' (.slice (some ⟨t, 0, none⟩) m m) m G) => EI a b c d F (some ⟨s, 0, none⟩) n n hn (Nat.le_refl _) e f g h G (some ⟨t, 0, none⟩) m m hm (Nat.le_refl _) u h1.ints h2.ints)
  have EXA := hide (fun (u : World) (s t base base' : Nat) (h1 : IntsV u base (.slice (some ⟨s, 0, none⟩) n n) n F) (h2 : IntsV u base' (.slice (some ⟨t, 0, none⟩) n n) n F) => eqMask_same a b c d F (some ⟨s, 0, none⟩) (some ⟨t, 0, none⟩) n n n hn u h1.ints h2.ints)
  have EXB := hide (fun (u : World) (s t base base' : Nat) (h1 : IntsV u base (.slice (some ⟨s, 0, none⟩) m m) m G) (h2 : IntsV u base' (.slice (some ⟨t, 0, none⟩) m m) m G) => eqMask_same e f g h G (some ⟨s, 0, none⟩) (some ⟨t, 0, none⟩) m m m hm u h1.ints h2.ints)
  have MXA := hide (fun (u : World) (s base : Nat) (h1 : IntsV u base (.slice (some ⟨s, 0, none⟩) n n) n F) => markInts_v a b c d _ base n 1 F (by omega) hn u h1)
  have MXB := hide (fun (u : World) (s base : Nat) (h1 : IntsV u base (.slice (some ⟨s, 0, none⟩) m m) m G) => markInts_v e f g h _ base m (1 + n) G (by omega) hm u h1)
  have hN := hide (meet_len (a := a) (b := b) (c := c) (d := d) (e := e) (f := f) (g := g) (h := h) (n := n) (m := m) (F := F) (G := G))
  unfold MeetRes at S I
  generalize boxK (maskOkB a b c d n F && maskOkB e f g h m G) (sqN (meet0 a b c d e f g h) (meet1 a b c d e f g h) (meet2 a b c d e f g h) (meet3 a b c d e f g h)) = N at S I hN
  generalize boxV (maskOkB a b c d n F && maskOkB e f g h m G) (meet0 a b c d e f g h) = x0 at S I
  generalize boxV (maskOkB a b c d n F && maskOkB e f g h m G) (meet1 a b c d e f g h) = x1 at S I
  generalize boxV (maskOkB a b c d n F && maskOkB e f g h m G) (meet2 a b c d e f g h) = x2 at S I
  generalize boxV (maskOkB a b c d n F && maskOkB e f g h m G) (meet3 a b c d e f g h) = x3 at S I
  generalize meetF (meet0 a b c d e f g h) (meet1 a b c d e f g h) (meet2 a b c d e f g h) a b c d F e f g h G = mf at S I
  have EXM := hide (fun (u : World) (xx yy : Option Addr) (cx cy base base' : Nat) (h1 : IntsV u base (.slice xx N cx) N mf) (h2 : IntsV u base' (.slice yy N cy) N mf) => eqMask_same x0 x1 x2 x3 mf xx yy N cx cy (unhide hN) u h1.ints h2.ints)
  have MXM := hide (fun (u : World) (x : Option Addr) (cx base : Nat) (h1 : IntsV u base (.slice x N cx) N mf) => markInts_v x0 x1 x2 x3 _ base N 1 mf (by omega) (unhide hN) u h1)
  have HXM := hide (fun (u : World) (x : Option Addr) (cx base : Nat) (h1 : MarkedI u base (.slice x N cx) N) => heldInts_v x0 x1 x2 x3 _ base N (unhide hN) u h1)
  have hq1 : ¬ (((1 + n + m : Nat) : Int) < 0) := by omega
  have hq2 : ¬ (((1 + N : Nat) : Int) < 0) := by omega
  generalize ((1 + n + m : Nat) : Int) = Q1 at MXB hq1
  generalize ((1 + N : Nat) : Int) = Q2 at MXM HXM hq2
  clear PA PB hmA hmB hbig hbig2 hn hm EI hN
  go_enter Try.func3, Try.ntmps3
  go_upto_region 1 with fail
  have RA := hide (al2_0 w (.cells #[.int .i64 a, .int .i64 b, .int .i64 c, .int .i64 d, .slice ao n ca] 26) (.cells #[.int .i64 e, .int .i64 f, .int .i64 g, .int .i64 h, .slice bo m cb] 26))
  have RB := hide (al2_1 w (.cells #[.int .i64 a, .int .i64 b, .int .i64 c, .int .i64 d, .slice ao n ca] 26) (.cells #[.int .i64 e, .int .i64 f, .int .i64 g, .int .i64 h, .slice bo m cb] 26))
  have HB := hide (al2_below w (.cells #[.int .i64 a, .int .i64 b, .int .i64 c, .int .i64 d, .slice ao n ca] 26) (.cells #[.int .i64 e, .int .i64 f, .int .i64 g, .int .i64 h, .slice bo m cb] 26))
  have CUR := hide (show w.heap.size + 2 ≤ ((w.alloc (.cells #[.int .i64 a, .int .i64 b, .int .i64 c, .int .i64 d, .slice ao n ca] 26)).alloc (.cells #[.int .i64 e, .int .i64 f, .int .i64 g, .int .i64 h, .slice bo m cb] 26)).heap.size by rw [al2_size]; exact Nat.le_refl _)
  obtain ⟨c0, hc0⟩ : ∃ b, b = w.heap.size + 2 := ⟨_, rfl⟩
  obtain ⟨b_RB, hbB⟩ : ∃ b, b = w.heap.size + 1 := ⟨_, rfl⟩
  obtain ⟨b_RA, hbA⟩ : ∃ b, b = w.heap.size := ⟨_, rfl⟩
  have ORD := hide (show w.heap.size ≤ b_RA ∧ b_RA < b_RB ∧ b_RB < c0 by omega)
  rw [← hc0] at CUR
  rw [← hbB] at RB
  rw [← hbA] at RA
  rw [← hbB, ← hbA]
  clear hc0 hbB hbA
  generalize (w.alloc (.cells #[.int .i64 a, .int .i64 b, .int .i64 c, .int .i64 d, .slice ao n ca] 26)).alloc (.cells #[.int .i64 e, .int .i64 f, .int .i64 g, .int .i64 h, .slice bo m cb] 26) = W0 at *
  obtain ⟨q_RA_0, q_RA_1, q_RA_2, q_RA_3, q_RA_4⟩ := row5m (unhide RA)
  go_wp2_with fail
  clear q_RA_0 q_RA_1 q_RA_2 q_RA_3 q_RA_4
  go_fit (unhide Z _)
  rintro r w1 ⟨rfl, hb⟩
  replace RA := hide (row_next hb (unhide RA))
  replace RB := hide (row_next hb (unhide RB))
  replace CUR := hide (Nat.le_trans (unhide CUR) (Below.size hb))
  replace HB := hide (below_two (unhide HB) hb)
  clear hb
  obtain ⟨q_RB_0, q_RB_1, q_RB_2, q_RB_3, q_RB_4⟩ := row5m (unhide RB)
  go_wp2_with fail
  clear q_RB_0 q_RB_1 q_RB_2 q_RB_3 q_RB_4
  go_fit (unhide Z2 _)
  rintro r w2 ⟨rfl, hb⟩
  replace RA := hide (row_next hb (unhide RA))
  replace RB := hide (row_next hb (unhide RB))
  replace CUR := hide (Nat.le_trans (unhide CUR) (Below.size hb))
  replace HB := hide (below_two (unhide HB) hb)
  clear hb
  clear Z Z2
  go_wp2_with fail
  have k0 := hide (show ∀ u, Below w2.heap.size w2 u → (u.cell? ⟨b_RA, 0, none⟩ = some (.int .i64 a) ∧ u.cell? ⟨b_RA, 1, none⟩ = some (.int .i64 b) ∧ u.cell? ⟨b_RA, 2, none⟩ = some (.int .i64 c) ∧ u.cell? ⟨b_RA, 3, none⟩ = some (.int .i64 d) ∧ u.cell? ⟨b_RA, 4, none⟩ = some (.slice ao n ca) ∧ u.cell? ⟨b_RB, 0, none⟩ = some (.int .i64 e) ∧ u.cell? ⟨b_RB, 1, none⟩ = some (.int .i64 f) ∧ u.cell? ⟨b_RB, 2, none⟩ = some (.int .i64 g) ∧ u.cell? ⟨b_RB, 3, none⟩ = some (.int .i64 h) ∧ u.cell? ⟨b_RB, 4, none⟩ = some (.slice bo m cb) ∧ Below w2.heap.size w2 u) from fun u h => ⟨(row5m (row_next h (unhide RA))).1, (row5m (row_next h (unhide RA))).2.1, (row5m (row_next h (unhide RA))).2.2.1, (row5m (row_next h (unhide RA))).2.2.2.1, (row5m (row_next h (unhide RA))).2.2.2.2, (row5m (row_next h (unhide RB))).1, (row5m (row_next h (unhide RB))).2.1, (row5m (row_next h (unhide RB))).2.2.1, (row5m (row_next h (unhide RB))).2.2.2.1, (row5m (row_next h (unhide RB))).2.2.2.2, h⟩)
  have kS := hide (show ∀ u, (u.cell? ⟨b_RA, 0, none⟩ = some (.int .i64 a) ∧ u.cell? ⟨b_RA, 1, none⟩ = some (.int .i64 b) ∧ u.cell? ⟨b_RA, 2, none⟩ = some (.int .i64 c) ∧ u.cell? ⟨b_RA, 3, none⟩ = some (.int .i64 d) ∧ u.cell? ⟨b_RA, 4, none⟩ = some (.slice ao n ca) ∧ u.cell? ⟨b_RB, 0, none⟩ = some (.int .i64 e) ∧ u.cell? ⟨b_RB, 1, none⟩ = some (.int .i64 f) ∧ u.cell? ⟨b_RB, 2, none⟩ = some (.int .i64 g) ∧ u.cell? ⟨b_RB, 3, none⟩ = some (.int .i64 h) ∧ u.cell? ⟨b_RB, 4, none⟩ = some (.slice bo m cb) ∧ Below w2.heap.size w2 u) → Below w2.heap.size w2 u from fun u h => h.2.2.2.2.2.2.2.2.2.2)
  have k00 := hide (unhide k0 _ (Below.refl _ _).drew)
  have hd : w2.drew.heap.size = w2.heap.size := rfl
  go_cut [6] (fun s u => ∃ q a c, s = .pointer (some ⟨q, 0, none⟩) ∧ u.heap[q]? = some (.cells #[.int .i64 x0, .int .i64 x1, .int .i64 x2, .int .i64 x3, .slice a N c] 30 (0, 0)) ∧ IntsV u w2.heap.size (.slice a N c) N mf ∧ some q ≠ (Value.slice a N c).ownBlock ∧ w2.heap.size ≤ q ∧ Below w2.heap.size w2 u)
  case first =>
    go_region_held3 (fun u => u.cell? ⟨b_RA, 0, none⟩ = some (.int .i64 a) ∧ u.cell? ⟨b_RA, 1, none⟩ = some (.int .i64 b) ∧ u.cell? ⟨b_RA, 2, none⟩ = some (.int .i64 c) ∧ u.cell? ⟨b_RA, 3, none⟩ = some (.int .i64 d) ∧ u.cell? ⟨b_RA, 4, none⟩ = some (.slice ao n ca) ∧ u.cell? ⟨b_RB, 0, none⟩ = some (.int .i64 e) ∧ u.cell? ⟨b_RB, 1, none⟩ = some (.int .i64 f) ∧ u.cell? ⟨b_RB, 2, none⟩ = some (.int .i64 g) ∧ u.cell? ⟨b_RB, 3, none⟩ = some (.int .i64 h) ∧ u.cell? ⟨b_RB, 4, none⟩ = some (.slice bo m cb) ∧ Below w2.heap.size w2 u) ((first | with_reducible exact unhide k00 | (refine unhide k0 _ ?_; first | with_reducible assumption | (with_reducible refine below_new _ ?_ (Nat.le_refl _); with_reducible assumption) | (with_reducible refine Below.drew ?_; with_reducible exact below_new _ (Below.refl _ _) (Nat.le_refl _)) | (with_reducible refine below_put5 ?_ ?_ _ _ _ _ _ <;> first | with_reducible assumption | omega)))) (first | (go_at_call 8; go_fit (unhide TA _ (below_two (unhide HB) (unhide kS _ (by with_reducible assumption)))); rintro r y1 ⟨s1, rfl, hpv, hb1⟩; have hW1 := below_after hb1 (unhide kS _ (by with_reducible assumption)) (Nat.le_refl _); have hsz := hb1.size; have hge := hW1.size; (first | (have zz := carry5 (.int .i64 0) (.int .i64 0) (.int .i64 0) (.int .i64 0) (.slice none 0 0) 30 hb1 (by with_reducible assumption); obtain ⟨z0, z1, z2, z3, z4, v0, v1, v2, v3, v4, hz, hzl⟩ := zz) | (have zz := carry5 (.int .i64 0) (.int .i64 0) (.int .i64 0) (.int .i64 0) (.slice none 0 0) 30 hb1 (al1_0 _ _); obtain ⟨z0, z1, z2, z3, z4, v0, v1, v2, v3, v4, hz, hzl⟩ := zz; try simp only [hd] at z0 z1 z2 z3 z4 v0 v1 v2 v3 v4 hz hzl) | skip); have pvA := hide hpv; clear hpv) | (go_at_call 8; go_fit (unhide TB _ (below_two (unhide HB) (unhide kS _ (by with_reducible assumption)))); rintro r y1 ⟨s2, rfl, hpv, hb1⟩; have hW1 := below_after hb1 (unhide kS _ (by with_reducible assumption)) (Nat.le_refl _); have hsz := hb1.size; have hge := hW1.size; (first | (have zz := carry5 (.int .i64 0) (.int .i64 0) (.int .i64 0) (.int .i64 0) (.slice none 0 0) 30 hb1 (by with_reducible assumption); obtain ⟨z0, z1, z2, z3, z4, v0, v1, v2, v3, v4, hz, hzl⟩ := zz) | (have zz := carry5 (.int .i64 0) (.int .i64 0) (.int .i64 0) (.int .i64 0) (.slice none 0 0) 30 hb1 (al1_0 _ _); obtain ⟨z0, z1, z2, z3, z4, v0, v1, v2, v3, v4, hz, hzl⟩ := zz; try simp only [hd] at z0 z1 z2 z3 z4 v0 v1 v2 v3 v4 hz hzl) | skip); (first | (replace pvA := hide ((unhide pvA).next hb1)) | (replace pvA := hide (((unhide pvA).next (al1_below _ _)).next hb1)) | skip); have pvB := hide hpv; clear hpv) | (go_at_call 7; (first | go_fit (unhide S _ _ _ _ _ (unhide pvA) (unhide pvB)) | go_fit (unhide S _ _ _ _ _ ((unhide pvA).next (al1_below _ _)) ((unhide pvB).next (al1_below _ _)))); intro r y1 hres; obtain ⟨a1, c1, rfl, hp1, hb1⟩ := MaskRes.open hres; clear hres; have pr := hide (hp1.low (Below.size (unhide kS _ (by with_reducible assumption)))); (first | (have nq := hide (hp1.notOld (heap_lt (by with_reducible assumption))); skip) | (have nq := hide (hp1.notOld (new_lt _ _)); try simp only [hd] at nq) | skip); have hW1 := below_after hb1 (unhide kS _ (by with_reducible assumption)) (Nat.le_refl _); have hsz := hb1.size; have hge := hW1.size; (first | (have zz := carry5 (.int .i64 0) (.int .i64 0) (.int .i64 0) (.int .i64 0) (.slice none 0 0) 30 hb1 (by with_reducible assumption); obtain ⟨z0, z1, z2, z3, z4, v0, v1, v2, v3, v4, hz, hzl⟩ := zz) | (have zz := carry5 (.int .i64 0) (.int .i64 0) (.int .i64 0) (.int .i64 0) (.slice none 0 0) 30 hb1 (al1_0 _ _); obtain ⟨z0, z1, z2, z3, z4, v0, v1, v2, v3, v4, hz, hzl⟩ := zz; try simp only [hd] at z0 z1 z2 z3 z4 v0 v1 v2 v3 v4 hz hzl) | skip); skip; clear hp1))
    all_goals
      go_wp2_with fail
      go_meet
      first
      | (refine ⟨_, a1, c1, rfl, ?_, ?_, unhide nq, ?_, ?_⟩; exact put5_row hz; exact (unhide pr).put5 (unhide nq); (first | with_reducible exact Nat.le_refl _ | omega); exact unhide kS _ (by with_reducible assumption))
      | exact ⟨_, a1, c1, rfl, new_row _ _, (unhide pr).next (al1_below _ _), (unhide pr).notNew (Nat.le_refl _), hW1.size, unhide kS _ (by with_reducible assumption)⟩
  case rest =>
    obtain ⟨b_R0, a_p0, c_p0, rfl, hr, hp, hnot, hge, hb⟩ := hcut
    have hql := heap_lt hr
    have lo0 := CUR
    replace RA := hide (row_next hb (unhide RA))
    replace RB := hide (row_next hb (unhide RB))
    replace CUR := hide (Nat.le_trans (unhide CUR) (Below.size hb))
    replace HB := hide (below_two (unhide HB) hb)
    clear hb
    obtain ⟨hi_p0, hhi⟩ : ∃ h, h = wc.heap.size := ⟨_, rfl⟩
    replace CUR := hide (show hi_p0 ≤ wc.heap.size by rw [hhi]; exact Nat.le_refl _)
    have B_p0 := hide (show ∀ k, (Value.ownBlock (.slice a_p0 N c_p0)) = some k → w2.heap.size ≤ k ∧ k < hi_p0 from fun k hk => by rw [hhi]; exact hp.lt k hk)
    rw [← hhi] at hql
    clear hhi
    have p0 := hide hp
    have R0 := hide hr
    have nq_R0_p0 := hide hnot
    clear hp hr hnot
    replace hge := hide hge
    replace hql := hide hql
    clear k0 kS k00 hd
    generalize wc = X50 at *
    generalize w2.heap.size = lo_p0 at p0 B_p0 lo0 hge
    replace ORD := hide (And.intro (unhide ORD) (And.intro (unhide lo0) (And.intro (unhide hge) (unhide hql))))
    clear lo0 hge hql
    obtain ⟨q_RA_0, q_RA_1, q_RA_2, q_RA_3, q_RA_4⟩ := row5m (unhide RA)
    go_wp2_with fail
    clear q_RA_0 q_RA_1 q_RA_2 q_RA_3 q_RA_4
    go_fit (unhide TA _ (unhide HB))
    rintro r w3 ⟨s_a, rfl, hp, hb⟩
    have lo0 := CUR
    have lo1 := hide (Below.size hb)
    replace RA := hide (row_next hb (unhide RA))
    replace RB := hide (row_next hb (unhide RB))
    replace R0 := hide (row_next hb (unhide R0))
    replace p0 := hide ((unhide p0).next hb)
    replace CUR := hide (Nat.le_trans (unhide CUR) (Below.size hb))
    replace HB := hide (below_two (unhide HB) hb)
    clear hb
    obtain ⟨hi_pa, hhi⟩ : ∃ h, h = w3.heap.size := ⟨_, rfl⟩
    replace CUR := hide (show hi_pa ≤ w3.heap.size by rw [hhi]; exact Nat.le_refl _)
    have B_pa := hide (show ∀ k, (Value.ownBlock (.slice (some ⟨s_a, 0, none⟩) n n)) = some k → X50.heap.size ≤ k ∧ k < hi_pa from fun k hk => by rw [hhi]; exact hp.lt k hk)
    rw [← hhi] at lo1
    clear hhi
    have pa := hide hp
    clear hp
    generalize X50.heap.size = lo_pa at pa B_pa lo0 lo1
    replace ORD := hide (And.intro (unhide ORD) (And.intro (unhide lo0) (unhide lo1)))
    clear lo0 lo1
    go_upto_region 10 with fail
    have lo0 := CUR
    have R1 := hide (new_row w3 (.cells #[.int .i64 a, .int .i64 b, .int .i64 c, .int .i64 d, .slice (some ⟨s_a, 0, none⟩) n n] 30))
    have hb := al1_below w3 (.cells #[.int .i64 a, .int .i64 b, .int .i64 c, .int .i64 d, .slice (some ⟨s_a, 0, none⟩) n n] 30)
    replace RA := hide (row_next hb (unhide RA))
    replace RB := hide (row_next hb (unhide RB))
    replace R0 := hide (row_next hb (unhide R0))
    replace p0 := hide ((unhide p0).next hb)
    replace pa := hide ((unhide pa).next hb)
    replace CUR := hide (Nat.le_trans (unhide CUR) (Below.size hb))
    replace HB := hide (below_two (unhide HB) hb)
    clear hb
    replace CUR := hide (show w3.heap.size + 1 ≤ (w3.alloc (.cells #[.int .i64 a, .int .i64 b, .int .i64 c, .int .i64 d, .slice (some ⟨s_a, 0, none⟩) n n] 30)).heap.size by rw [al1_size]; exact Nat.le_refl _)
    generalize w3.alloc (.cells #[.int .i64 a, .int .i64 b, .int .i64 c, .int .i64 d, .slice (some ⟨s_a, 0, none⟩) n n] 30) = W4 at *
    generalize w3.heap.size = b_R1 at R1 CUR lo0 ⊢
    replace ORD := hide (And.intro (unhide ORD) (unhide lo0))
    clear lo0
    obtain ⟨q_RB_0, q_RB_1, q_RB_2, q_RB_3, q_RB_4⟩ := row5m (unhide RB)
    go_wp2_with fail
    clear q_RB_0 q_RB_1 q_RB_2 q_RB_3 q_RB_4
    go_fit (unhide TB _ (unhide HB))
    rintro r w5 ⟨s_b, rfl, hp, hb⟩
    have lo0 := CUR
    have lo1 := hide (Below.size hb)
    replace RA := hide (row_next hb (unhide RA))
    replace RB := hide (row_next hb (unhide RB))
    replace R0 := hide (row_next hb (unhide R0))
    replace R1 := hide (row_next hb (unhide R1))
    replace p0 := hide ((unhide p0).next hb)
    replace pa := hide ((unhide pa).next hb)
    replace CUR := hide (Nat.le_trans (unhide CUR) (Below.size hb))
    replace HB := hide (below_two (unhide HB) hb)
    clear hb
    obtain ⟨hi_pb, hhi⟩ : ∃ h, h = w5.heap.size := ⟨_, rfl⟩
    replace CUR := hide (show hi_pb ≤ w5.heap.size by rw [hhi]; exact Nat.le_refl _)
    have B_pb := hide (show ∀ k, (Value.ownBlock (.slice (some ⟨s_b, 0, none⟩) m m)) = some k → W4.heap.size ≤ k ∧ k < hi_pb from fun k hk => by rw [hhi]; exact hp.lt k hk)
    rw [← hhi] at lo1
    clear hhi
    have pb := hide hp
    clear hp
    generalize W4.heap.size = lo_pb at pb B_pb lo0 lo1
    replace ORD := hide (And.intro (unhide ORD) (And.intro (unhide lo0) (unhide lo1)))
    clear lo0 lo1
    go_upto_region 11 with fail
    have lo0 := CUR
    have R2 := hide (new_row w5 (.cells #[.int .i64 e, .int .i64 f, .int .i64 g, .int .i64 h, .slice (some ⟨s_b, 0, none⟩) m m] 30))
    have hb := al1_below w5 (.cells #[.int .i64 e, .int .i64 f, .int .i64 g, .int .i64 h, .slice (some ⟨s_b, 0, none⟩) m m] 30)
    replace RA := hide (row_next hb (unhide RA))
    replace RB := hide (row_next hb (unhide RB))
    replace R0 := hide (row_next hb (unhide R0))
    replace R1 := hide (row_next hb (unhide R1))
    replace p0 := hide ((unhide p0).next hb)
    replace pa := hide ((unhide pa).next hb)
    replace pb := hide ((unhide pb).next hb)
    replace CUR := hide (Nat.le_trans (unhide CUR) (Below.size hb))
    replace HB := hide (below_two (unhide HB) hb)
    clear hb
    replace CUR := hide (show w5.heap.size + 1 ≤ (w5.alloc (.cells #[.int .i64 e, .int .i64 f, .int .i64 g, .int .i64 h, .slice (some ⟨s_b, 0, none⟩) m m] 30)).heap.size by rw [al1_size]; exact Nat.le_refl _)
    generalize w5.alloc (.cells #[.int .i64 e, .int .i64 f, .int .i64 g, .int .i64 h, .slice (some ⟨s_b, 0, none⟩) m m] 30) = W6 at *
    generalize w5.heap.size = b_R2 at R2 CUR lo0 ⊢
    replace ORD := hide (And.intro (unhide ORD) (unhide lo0))
    clear lo0
    obtain ⟨q_R1_0, q_R1_1, q_R1_2, q_R1_3, q_R1_4⟩ := row5m (unhide R1)
    obtain ⟨q_R2_0, q_R2_1, q_R2_2, q_R2_3, q_R2_4⟩ := row5m (unhide R2)
    go_wp2_with fail
    clear q_R1_0 q_R1_1 q_R1_2 q_R1_3 q_R1_4 q_R2_0 q_R2_1 q_R2_2 q_R2_3 q_R2_4
    go_fit (unhide I _ _ _ _ _ (unhide pa) (unhide pb))
    intro r w7 hres; obtain ⟨a_g, c_g, rfl, hp, hb⟩ := MaskRes.open hres; clear hres
    have lo0 := CUR
    have lo1 := hide (Below.size hb)
    replace RA := hide (row_next hb (unhide RA))
    replace RB := hide (row_next hb (unhide RB))
    replace R0 := hide (row_next hb (unhide R0))
    replace R1 := hide (row_next hb (unhide R1))
    replace R2 := hide (row_next hb (unhide R2))
    replace p0 := hide ((unhide p0).next hb)
    replace pa := hide ((unhide pa).next hb)
    replace pb := hide ((unhide pb).next hb)
    replace CUR := hide (Nat.le_trans (unhide CUR) (Below.size hb))
    replace HB := hide (below_two (unhide HB) hb)
    clear hb
    obtain ⟨hi_pg, hhi⟩ : ∃ h, h = w7.heap.size := ⟨_, rfl⟩
    replace CUR := hide (show hi_pg ≤ w7.heap.size by rw [hhi]; exact Nat.le_refl _)
    have B_pg := hide (show ∀ k, (Value.ownBlock (.slice a_g N c_g)) = some k → W6.heap.size ≤ k ∧ k < hi_pg from fun k hk => by rw [hhi]; exact hp.lt k hk)
    rw [← hhi] at lo1
    clear hhi
    have pg := hide hp
    clear hp
    generalize W6.heap.size = lo_pg at pg B_pg lo0 lo1
    replace ORD := hide (And.intro (unhide ORD) (And.intro (unhide lo0) (unhide lo1)))
    clear lo0 lo1
    go_upto_region 12 with fail
    have lo0 := CUR
    have R3 := hide (new_row w7 (.cells #[.int .i64 x0, .int .i64 x1, .int .i64 x2, .int .i64 x3, .slice a_g N c_g] 30))
    have hb := al1_below w7 (.cells #[.int .i64 x0, .int .i64 x1, .int .i64 x2, .int .i64 x3, .slice a_g N c_g] 30)
    replace RA := hide (row_next hb (unhide RA))
    replace RB := hide (row_next hb (unhide RB))
    replace R0 := hide (row_next hb (unhide R0))
    replace R1 := hide (row_next hb (unhide R1))
    replace R2 := hide (row_next hb (unhide R2))
    replace p0 := hide ((unhide p0).next hb)
    replace pa := hide ((unhide pa).next hb)
    replace pb := hide ((unhide pb).next hb)
    replace pg := hide ((unhide pg).next hb)
    replace CUR := hide (Nat.le_trans (unhide CUR) (Below.size hb))
    replace HB := hide (below_two (unhide HB) hb)
    clear hb
    replace CUR := hide (show w7.heap.size + 1 ≤ (w7.alloc (.cells #[.int .i64 x0, .int .i64 x1, .int .i64 x2, .int .i64 x3, .slice a_g N c_g] 30)).heap.size by rw [al1_size]; exact Nat.le_refl _)
    generalize w7.alloc (.cells #[.int .i64 x0, .int .i64 x1, .int .i64 x2, .int .i64 x3, .slice a_g N c_g] 30) = W8 at *
    generalize w7.heap.size = b_R3 at R3 CUR lo0 ⊢
    replace ORD := hide (And.intro (unhide ORD) (unhide lo0))
    clear lo0
    obtain ⟨q_R3_0, q_R3_1, q_R3_2, q_R3_3, q_R3_4⟩ := row5m (unhide R3)
    obtain ⟨q_R0_0, q_R0_1, q_R0_2, q_R0_3, q_R0_4⟩ := row5m (unhide R0)
    go_wp2_with fail
    clear q_R3_0 q_R3_1 q_R3_2 q_R3_3 q_R3_4 q_R0_0 q_R0_1 q_R0_2 q_R0_3 q_R0_4
    go_fit (unhide EXM _ _ _ _ _ _ _ (unhide pg) (unhide p0))
    rintro r w9 ⟨rfl, hb⟩
    replace RA := hide (row_next hb (unhide RA))
    replace RB := hide (row_next hb (unhide RB))
    replace R0 := hide (row_next hb (unhide R0))
    replace R1 := hide (row_next hb (unhide R1))
    replace R2 := hide (row_next hb (unhide R2))
    replace R3 := hide (row_next hb (unhide R3))
    replace p0 := hide ((unhide p0).next hb)
    replace pa := hide ((unhide pa).next hb)
    replace pb := hide ((unhide pb).next hb)
    replace pg := hide ((unhide pg).next hb)
    replace CUR := hide (Nat.le_trans (unhide CUR) (Below.size hb))
    replace HB := hide (below_two (unhide HB) hb)
    clear hb
    go_wp2_with fail
    have k0 := hide (show ∀ u, Below w9.heap.size w9 u → (u.cell? ⟨b_R1, 0, none⟩ = some (.int .i64 a) ∧ u.cell? ⟨b_R1, 1, none⟩ = some (.int .i64 b) ∧ u.cell? ⟨b_R1, 2, none⟩ = some (.int .i64 c) ∧ u.cell? ⟨b_R1, 3, none⟩ = some (.int .i64 d) ∧ u.cell? ⟨b_R1, 4, none⟩ = some (.slice (some ⟨s_a, 0, none⟩) n n) ∧ u.cell? ⟨b_RA, 0, none⟩ = some (.int .i64 a) ∧ u.cell? ⟨b_RA, 1, none⟩ = some (.int .i64 b) ∧ u.cell? ⟨b_RA, 2, none⟩ = some (.int .i64 c) ∧ u.cell? ⟨b_RA, 3, none⟩ = some (.int .i64 d) ∧ u.cell? ⟨b_RA, 4, none⟩ = some (.slice ao n ca) ∧ Below w9.heap.size w9 u) from fun u h => ⟨(row5m (row_next h (unhide R1))).1, (row5m (row_next h (unhide R1))).2.1, (row5m (row_next h (unhide R1))).2.2.1, (row5m (row_next h (unhide R1))).2.2.2.1, (row5m (row_next h (unhide R1))).2.2.2.2, (row5m (row_next h (unhide RA))).1, (row5m (row_next h (unhide RA))).2.1, (row5m (row_next h (unhide RA))).2.2.1, (row5m (row_next h (unhide RA))).2.2.2.1, (row5m (row_next h (unhide RA))).2.2.2.2, h⟩)
    have kS := hide (show ∀ u, (u.cell? ⟨b_R1, 0, none⟩ = some (.int .i64 a) ∧ u.cell? ⟨b_R1, 1, none⟩ = some (.int .i64 b) ∧ u.cell? ⟨b_R1, 2, none⟩ = some (.int .i64 c) ∧ u.cell? ⟨b_R1, 3, none⟩ = some (.int .i64 d) ∧ u.cell? ⟨b_R1, 4, none⟩ = some (.slice (some ⟨s_a, 0, none⟩) n n) ∧ u.cell? ⟨b_RA, 0, none⟩ = some (.int .i64 a) ∧ u.cell? ⟨b_RA, 1, none⟩ = some (.int .i64 b) ∧ u.cell? ⟨b_RA, 2, none⟩ = some (.int .i64 c) ∧ u.cell? ⟨b_RA, 3, none⟩ = some (.int .i64 d) ∧ u.cell? ⟨b_RA, 4, none⟩ = some (.slice ao n ca) ∧ Below w9.heap.size w9 u) → Below w9.heap.size w9 u from fun u h => h.2.2.2.2.2.2.2.2.2.2)
    have k00 := hide (unhide k0 _ (Below.refl _ _).drew)
    have hd : w9.drew.heap.size = w9.heap.size := rfl
    go_cut [44] (fun s u => s = .bool false ∧ Below w9.heap.size w9 u)
    case first =>
      go_region_held3 (fun u => u.cell? ⟨b_R1, 0, none⟩ = some (.int .i64 a) ∧ u.cell? ⟨b_R1, 1, none⟩ = some (.int .i64 b) ∧ u.cell? ⟨b_R1, 2, none⟩ = some (.int .i64 c) ∧ u.cell? ⟨b_R1, 3, none⟩ = some (.int .i64 d) ∧ u.cell? ⟨b_R1, 4, none⟩ = some (.slice (some ⟨s_a, 0, none⟩) n n) ∧ u.cell? ⟨b_RA, 0, none⟩ = some (.int .i64 a) ∧ u.cell? ⟨b_RA, 1, none⟩ = some (.int .i64 b) ∧ u.cell? ⟨b_RA, 2, none⟩ = some (.int .i64 c) ∧ u.cell? ⟨b_RA, 3, none⟩ = some (.int .i64 d) ∧ u.cell? ⟨b_RA, 4, none⟩ = some (.slice ao n ca) ∧ Below w9.heap.size w9 u) ((first | with_reducible exact unhide k00 | (refine unhide k0 _ ?_; first | with_reducible assumption | (with_reducible refine below_new _ ?_ (Nat.le_refl _); with_reducible assumption) | (with_reducible refine Below.drew ?_; with_reducible exact below_new _ (Below.refl _ _) (Nat.le_refl _)) | (with_reducible refine below_put5 ?_ ?_ _ _ _ _ _ <;> first | with_reducible assumption | omega)))) (first | (go_at_call 8; go_fit (unhide TA _ (below_two (unhide HB) (unhide kS _ (by with_reducible assumption)))); rintro r y1 ⟨s1, rfl, hpv, hb1⟩; have hW1 := below_after hb1 (unhide kS _ (by with_reducible assumption)) (Nat.le_refl _); have hsz := hb1.size; have hge := hW1.size; have pv := hide hpv; clear hpv) | (go_at_call 10; (first | go_fit (unhide EXA _ _ _ _ _ ((unhide pa).next (unhide kS _ (by with_reducible assumption))) (unhide pv))); rintro r y1 ⟨rfl, hb1⟩; have hW1 := below_after hb1 (unhide kS _ (by with_reducible assumption)) (Nat.le_refl _); have hsz := hb1.size; have hge := hW1.size))
      all_goals
        go_wp2_with fail
        go_meet
        exact ⟨rfl, unhide kS _ (by with_reducible assumption)⟩
    case rest =>
      obtain ⟨rfl, hb⟩ := hcut
      replace RA := hide (row_next hb (unhide RA))
      replace RB := hide (row_next hb (unhide RB))
      replace R0 := hide (row_next hb (unhide R0))
      replace R1 := hide (row_next hb (unhide R1))
      replace R2 := hide (row_next hb (unhide R2))
      replace R3 := hide (row_next hb (unhide R3))
      replace p0 := hide ((unhide p0).next hb)
      replace pa := hide ((unhide pa).next hb)
      replace pb := hide ((unhide pb).next hb)
      replace pg := hide ((unhide pg).next hb)
      replace CUR := hide (Nat.le_trans (unhide CUR) (Below.size hb))
      replace HB := hide (below_two (unhide HB) hb)
      clear hb k0 kS k00 hd
      generalize wc = X60 at *
      go_wp2_with fail
      have k0 := hide (show ∀ u, Below X60.heap.size X60 u → (u.cell? ⟨b_R2, 0, none⟩ = some (.int .i64 e) ∧ u.cell? ⟨b_R2, 1, none⟩ = some (.int .i64 f) ∧ u.cell? ⟨b_R2, 2, none⟩ = some (.int .i64 g) ∧ u.cell? ⟨b_R2, 3, none⟩ = some (.int .i64 h) ∧ u.cell? ⟨b_R2, 4, none⟩ = some (.slice (some ⟨s_b, 0, none⟩) m m) ∧ u.cell? ⟨b_RB, 0, none⟩ = some (.int .i64 e) ∧ u.cell? ⟨b_RB, 1, none⟩ = some (.int .i64 f) ∧ u.cell? ⟨b_RB, 2, none⟩ = some (.int .i64 g) ∧ u.cell? ⟨b_RB, 3, none⟩ = some (.int .i64 h) ∧ u.cell? ⟨b_RB, 4, none⟩ = some (.slice bo m cb) ∧ Below X60.heap.size X60 u) from fun u h => ⟨(row5m (row_next h (unhide R2))).1, (row5m (row_next h (unhide R2))).2.1, (row5m (row_next h (unhide R2))).2.2.1, (row5m (row_next h (unhide R2))).2.2.2.1, (row5m (row_next h (unhide R2))).2.2.2.2, (row5m (row_next h (unhide RB))).1, (row5m (row_next h (unhide RB))).2.1, (row5m (row_next h (unhide RB))).2.2.1, (row5m (row_next h (unhide RB))).2.2.2.1, (row5m (row_next h (unhide RB))).2.2.2.2, h⟩)
      have kS := hide (show ∀ u, (u.cell? ⟨b_R2, 0, none⟩ = some (.int .i64 e) ∧ u.cell? ⟨b_R2, 1, none⟩ = some (.int .i64 f) ∧ u.cell? ⟨b_R2, 2, none⟩ = some (.int .i64 g) ∧ u.cell? ⟨b_R2, 3, none⟩ = some (.int .i64 h) ∧ u.cell? ⟨b_R2, 4, none⟩ = some (.slice (some ⟨s_b, 0, none⟩) m m) ∧ u.cell? ⟨b_RB, 0, none⟩ = some (.int .i64 e) ∧ u.cell? ⟨b_RB, 1, none⟩ = some (.int .i64 f) ∧ u.cell? ⟨b_RB, 2, none⟩ = some (.int .i64 g) ∧ u.cell? ⟨b_RB, 3, none⟩ = some (.int .i64 h) ∧ u.cell? ⟨b_RB, 4, none⟩ = some (.slice bo m cb) ∧ Below X60.heap.size X60 u) → Below X60.heap.size X60 u from fun u h => h.2.2.2.2.2.2.2.2.2.2)
      have k00 := hide (unhide k0 _ (Below.refl _ _).drew)
      have hd : X60.drew.heap.size = X60.heap.size := rfl
      go_cut [49] (fun s u => s = .bool false ∧ Below X60.heap.size X60 u)
      case first =>
        go_region_held3 (fun u => u.cell? ⟨b_R2, 0, none⟩ = some (.int .i64 e) ∧ u.cell? ⟨b_R2, 1, none⟩ = some (.int .i64 f) ∧ u.cell? ⟨b_R2, 2, none⟩ = some (.int .i64 g) ∧ u.cell? ⟨b_R2, 3, none⟩ = some (.int .i64 h) ∧ u.cell? ⟨b_R2, 4, none⟩ = some (.slice (some ⟨s_b, 0, none⟩) m m) ∧ u.cell? ⟨b_RB, 0, none⟩ = some (.int .i64 e) ∧ u.cell? ⟨b_RB, 1, none⟩ = some (.int .i64 f) ∧ u.cell? ⟨b_RB, 2, none⟩ = some (.int .i64 g) ∧ u.cell? ⟨b_RB, 3, none⟩ = some (.int .i64 h) ∧ u.cell? ⟨b_RB, 4, none⟩ = some (.slice bo m cb) ∧ Below X60.heap.size X60 u) ((first | with_reducible exact unhide k00 | (refine unhide k0 _ ?_; first | with_reducible assumption | (with_reducible refine below_new _ ?_ (Nat.le_refl _); with_reducible assumption) | (with_reducible refine Below.drew ?_; with_reducible exact below_new _ (Below.refl _ _) (Nat.le_refl _)) | (with_reducible refine below_put5 ?_ ?_ _ _ _ _ _ <;> first | with_reducible assumption | omega)))) (first | (go_at_call 8; go_fit (unhide TB _ (below_two (unhide HB) (unhide kS _ (by with_reducible assumption)))); rintro r y1 ⟨s1, rfl, hpv, hb1⟩; have hW1 := below_after hb1 (unhide kS _ (by with_reducible assumption)) (Nat.le_refl _); have hsz := hb1.size; have hge := hW1.size; have pv := hide hpv; clear hpv) | (go_at_call 10; (first | go_fit (unhide EXB _ _ _ _ _ ((unhide pb).next (unhide kS _ (by with_reducible assumption))) (unhide pv))); rintro r y1 ⟨rfl, hb1⟩; have hW1 := below_after hb1 (unhide kS _ (by with_reducible assumption)) (Nat.le_refl _); have hsz := hb1.size; have hge := hW1.size))
        all_goals
          go_wp2_with fail
          go_meet
          exact ⟨rfl, unhide kS _ (by with_reducible assumption)⟩
      case rest =>
        obtain ⟨rfl, hb⟩ := hcut
        replace RA := hide (row_next hb (unhide RA))
        replace RB := hide (row_next hb (unhide RB))
        replace R0 := hide (row_next hb (unhide R0))
        replace R1 := hide (row_next hb (unhide R1))
        replace R2 := hide (row_next hb (unhide R2))
        replace R3 := hide (row_next hb (unhide R3))
        replace p0 := hide ((unhide p0).next hb)
        replace pa := hide ((unhide pa).next hb)
        replace pb := hide ((unhide pb).next hb)
        replace pg := hide ((unhide pg).next hb)
        replace CUR := hide (Nat.le_trans (unhide CUR) (Below.size hb))
        replace HB := hide (below_two (unhide HB) hb)
        clear hb k0 kS k00 hd
        generalize wc = X61 at *
        obtain ⟨q_R1_0, q_R1_1, q_R1_2, q_R1_3, q_R1_4⟩ := row5m (unhide R1)
        go_wp2_with fail
        clear q_R1_0 q_R1_1 q_R1_2 q_R1_3 q_R1_4
        go_fit (unhide MXA _ _ _ (unhide pa))
        rintro r w10 ⟨rfl, hm, hg⟩
        replace RA := hide ((hg.block b_RA (heap_lt (unhide RA)) (fun e => by have h := unhide B_pa _ e.symm; have o := unhide ORD; omega)).trans (unhide RA))
        replace RB := hide ((hg.block b_RB (heap_lt (unhide RB)) (fun e => by have h := unhide B_pa _ e.symm; have o := unhide ORD; omega)).trans (unhide RB))
        replace R0 := hide ((hg.block b_R0 (heap_lt (unhide R0)) (fun e => by have h := unhide B_pa _ e.symm; have o := unhide ORD; omega)).trans (unhide R0))
        replace R1 := hide ((hg.block b_R1 (heap_lt (unhide R1)) (fun e => by have h := unhide B_pa _ e.symm; have o := unhide ORD; omega)).trans (unhide R1))
        replace R2 := hide ((hg.block b_R2 (heap_lt (unhide R2)) (fun e => by have h := unhide B_pa _ e.symm; have o := unhide ORD; omega)).trans (unhide R2))
        replace R3 := hide ((hg.block b_R3 (heap_lt (unhide R3)) (fun e => by have h := unhide B_pa _ e.symm; have o := unhide ORD; omega)).trans (unhide R3))
        replace p0 := hide ((unhide p0).kept hg (apart_bd (unhide B_p0) (unhide B_pa) (by have o := unhide ORD; omega)))
        replace pb := hide ((unhide pb).kept hg (apart_bd (unhide B_pb) (unhide B_pa) (by have o := unhide ORD; omega)))
        replace pg := hide ((unhide pg).kept hg (apart_bd (unhide B_pg) (unhide B_pa) (by have o := unhide ORD; omega)))
        replace HB := hide ((unhide HB).grown hg (unhide HB).size (fun k hk => by have h := unhide B_pa _ hk; have o := unhide ORD; omega))
        replace CUR := hide (Nat.le_trans (unhide CUR) hg.size)
        replace pa := hide hm
        clear hm hg
        obtain ⟨q_R2_0, q_R2_1, q_R2_2, q_R2_3, q_R2_4⟩ := row5m (unhide R2)
        go_wp2_with fail
        clear q_R2_0 q_R2_1 q_R2_2 q_R2_3 q_R2_4
        go_fit (unhide MXB _ _ _ (unhide pb))
        rintro r w11 ⟨rfl, hm, hg⟩
        replace RA := hide ((hg.block b_RA (heap_lt (unhide RA)) (fun e => by have h := unhide B_pb _ e.symm; have o := unhide ORD; omega)).trans (unhide RA))
        replace RB := hide ((hg.block b_RB (heap_lt (unhide RB)) (fun e => by have h := unhide B_pb _ e.symm; have o := unhide ORD; omega)).trans (unhide RB))
        replace R0 := hide ((hg.block b_R0 (heap_lt (unhide R0)) (fun e => by have h := unhide B_pb _ e.symm; have o := unhide ORD; omega)).trans (unhide R0))
        replace R1 := hide ((hg.block b_R1 (heap_lt (unhide R1)) (fun e => by have h := unhide B_pb _ e.symm; have o := unhide ORD; omega)).trans (unhide R1))
        replace R2 := hide ((hg.block b_R2 (heap_lt (unhide R2)) (fun e => by have h := unhide B_pb _ e.symm; have o := unhide ORD; omega)).trans (unhide R2))
        replace R3 := hide ((hg.block b_R3 (heap_lt (unhide R3)) (fun e => by have h := unhide B_pb _ e.symm; have o := unhide ORD; omega)).trans (unhide R3))
        replace p0 := hide ((unhide p0).kept hg (apart_bd (unhide B_p0) (unhide B_pb) (by have o := unhide ORD; omega)))
        replace pg := hide ((unhide pg).kept hg (apart_bd (unhide B_pg) (unhide B_pb) (by have o := unhide ORD; omega)))
        replace pa := hide ((unhide pa).kept hg (apart_bd (unhide B_pa) (unhide B_pb) (by have o := unhide ORD; omega)))
        replace HB := hide ((unhide HB).grown hg (unhide HB).size (fun k hk => by have h := unhide B_pb _ hk; have o := unhide ORD; omega))
        replace CUR := hide (Nat.le_trans (unhide CUR) hg.size)
        replace pb := hide hm
        clear hm hg
        clear pa
        clear pb
        obtain ⟨q_R3_0, q_R3_1, q_R3_2, q_R3_3, q_R3_4⟩ := row5m (unhide R3)
        obtain ⟨q_R0_0, q_R0_1, q_R0_2, q_R0_3, q_R0_4⟩ := row5m (unhide R0)
        go_wp2_with fail
        clear q_R3_0 q_R3_1 q_R3_2 q_R3_3 q_R3_4 q_R0_0 q_R0_1 q_R0_2 q_R0_3 q_R0_4
        go_fit (unhide EXM _ _ _ _ _ _ _ (unhide pg) (unhide p0))
        rintro r w12 ⟨rfl, hb⟩
        replace RA := hide (row_next hb (unhide RA))
        replace RB := hide (row_next hb (unhide RB))
        replace R0 := hide (row_next hb (unhide R0))
        replace R1 := hide (row_next hb (unhide R1))
        replace R2 := hide (row_next hb (unhide R2))
        replace R3 := hide (row_next hb (unhide R3))
        replace p0 := hide ((unhide p0).next hb)
        replace pg := hide ((unhide pg).next hb)
        replace CUR := hide (Nat.le_trans (unhide CUR) (Below.size hb))
        replace HB := hide (below_two (unhide HB) hb)
        clear hb
        obtain ⟨q_R3_0, q_R3_1, q_R3_2, q_R3_3, q_R3_4⟩ := row5m (unhide R3)
        go_wp2_with fail
        clear q_R3_0 q_R3_1 q_R3_2 q_R3_3 q_R3_4
        go_fit (unhide MXM _ _ _ _ (unhide pg))
        rintro r w13 ⟨rfl, hm, hg⟩
        replace RA := hide ((hg.block b_RA (heap_lt (unhide RA)) (fun e => by have h := unhide B_pg _ e.symm; have o := unhide ORD; omega)).trans (unhide RA))
        replace RB := hide ((hg.block b_RB (heap_lt (unhide RB)) (fun e => by have h := unhide B_pg _ e.symm; have o := unhide ORD; omega)).trans (unhide RB))
        replace R0 := hide ((hg.block b_R0 (heap_lt (unhide R0)) (fun e => by have h := unhide B_pg _ e.symm; have o := unhide ORD; omega)).trans (unhide R0))
        replace R1 := hide ((hg.block b_R1 (heap_lt (unhide R1)) (fun e => by have h := unhide B_pg _ e.symm; have o := unhide ORD; omega)).trans (unhide R1))
        replace R2 := hide ((hg.block b_R2 (heap_lt (unhide R2)) (fun e => by have h := unhide B_pg _ e.symm; have o := unhide ORD; omega)).trans (unhide R2))
        replace R3 := hide ((hg.block b_R3 (heap_lt (unhide R3)) (fun e => by have h := unhide B_pg _ e.symm; have o := unhide ORD; omega)).trans (unhide R3))
        replace p0 := hide ((unhide p0).kept hg (apart_bd (unhide B_p0) (unhide B_pg) (by have o := unhide ORD; omega)))
        replace HB := hide ((unhide HB).grown hg (unhide HB).size (fun k hk => by have h := unhide B_pg _ hk; have o := unhide ORD; omega))
        replace CUR := hide (Nat.le_trans (unhide CUR) hg.size)
        replace pg := hide hm
        clear hm hg
        obtain ⟨q_R3_0, q_R3_1, q_R3_2, q_R3_3, q_R3_4⟩ := row5m (unhide R3)
        go_wp2_with fail
        clear q_R3_0 q_R3_1 q_R3_2 q_R3_3 q_R3_4
        go_fit (unhide HXM _ _ _ _ (unhide pg))
        rintro r w14 ⟨rfl, hb⟩
        replace RA := hide (row_next hb (unhide RA))
        replace RB := hide (row_next hb (unhide RB))
        replace R0 := hide (row_next hb (unhide R0))
        replace R1 := hide (row_next hb (unhide R1))
        replace R2 := hide (row_next hb (unhide R2))
        replace R3 := hide (row_next hb (unhide R3))
        replace p0 := hide ((unhide p0).next hb)
        replace pg := hide ((unhide pg).next hb)
        replace CUR := hide (Nat.le_trans (unhide CUR) (Below.size hb))
        replace HB := hide (below_two (unhide HB) hb)
        clear hb
        go_wp2_with fail
        have k0 := hide (show ∀ u, Below w14.heap.size w14 u → (u.cell? ⟨b_RA, 0, none⟩ = some (.int .i64 a) ∧ u.cell? ⟨b_RA, 1, none⟩ = some (.int .i64 b) ∧ u.cell? ⟨b_RA, 2, none⟩ = some (.int .i64 c) ∧ u.cell? ⟨b_RA, 3, none⟩ = some (.int .i64 d) ∧ u.cell? ⟨b_RA, 4, none⟩ = some (.slice ao n ca) ∧ u.cell? ⟨b_RB, 0, none⟩ = some (.int .i64 e) ∧ u.cell? ⟨b_RB, 1, none⟩ = some (.int .i64 f) ∧ u.cell? ⟨b_RB, 2, none⟩ = some (.int .i64 g) ∧ u.cell? ⟨b_RB, 3, none⟩ = some (.int .i64 h) ∧ u.cell? ⟨b_RB, 4, none⟩ = some (.slice bo m cb) ∧ Below w14.heap.size w14 u) from fun u h => ⟨(row5m (row_next h (unhide RA))).1, (row5m (row_next h (unhide RA))).2.1, (row5m (row_next h (unhide RA))).2.2.1, (row5m (row_next h (unhide RA))).2.2.2.1, (row5m (row_next h (unhide RA))).2.2.2.2, (row5m (row_next h (unhide RB))).1, (row5m (row_next h (unhide RB))).2.1, (row5m (row_next h (unhide RB))).2.2.1, (row5m (row_next h (unhide RB))).2.2.2.1, (row5m (row_next h (unhide RB))).2.2.2.2, h⟩)
        have kS := hide (show ∀ u, (u.cell? ⟨b_RA, 0, none⟩ = some (.int .i64 a) ∧ u.cell? ⟨b_RA, 1, none⟩ = some (.int .i64 b) ∧ u.cell? ⟨b_RA, 2, none⟩ = some (.int .i64 c) ∧ u.cell? ⟨b_RA, 3, none⟩ = some (.int .i64 d) ∧ u.cell? ⟨b_RA, 4, none⟩ = some (.slice ao n ca) ∧ u.cell? ⟨b_RB, 0, none⟩ = some (.int .i64 e) ∧ u.cell? ⟨b_RB, 1, none⟩ = some (.int .i64 f) ∧ u.cell? ⟨b_RB, 2, none⟩ = some (.int .i64 g) ∧ u.cell? ⟨b_RB, 3, none⟩ = some (.int .i64 h) ∧ u.cell? ⟨b_RB, 4, none⟩ = some (.slice bo m cb) ∧ Below w14.heap.size w14 u) → Below w14.heap.size w14 u from fun u h => h.2.2.2.2.2.2.2.2.2.2)
        have k00 := hide (unhide k0 _ (Below.refl _ _).drew)
        have hd : w14.drew.heap.size = w14.heap.size := rfl
        go_cut [13] (fun s u => ∃ q a c, s = .pointer (some ⟨q, 0, none⟩) ∧ u.heap[q]? = some (.cells #[.int .i64 x0, .int .i64 x1, .int .i64 x2, .int .i64 x3, .slice a N c] 30 (0, 0)) ∧ IntsV u w14.heap.size (.slice a N c) N mf ∧ some q ≠ (Value.slice a N c).ownBlock ∧ w14.heap.size ≤ q ∧ Below w14.heap.size w14 u)
        case first =>
          go_region_held3 (fun u => u.cell? ⟨b_RA, 0, none⟩ = some (.int .i64 a) ∧ u.cell? ⟨b_RA, 1, none⟩ = some (.int .i64 b) ∧ u.cell? ⟨b_RA, 2, none⟩ = some (.int .i64 c) ∧ u.cell? ⟨b_RA, 3, none⟩ = some (.int .i64 d) ∧ u.cell? ⟨b_RA, 4, none⟩ = some (.slice ao n ca) ∧ u.cell? ⟨b_RB, 0, none⟩ = some (.int .i64 e) ∧ u.cell? ⟨b_RB, 1, none⟩ = some (.int .i64 f) ∧ u.cell? ⟨b_RB, 2, none⟩ = some (.int .i64 g) ∧ u.cell? ⟨b_RB, 3, none⟩ = some (.int .i64 h) ∧ u.cell? ⟨b_RB, 4, none⟩ = some (.slice bo m cb) ∧ Below w14.heap.size w14 u) ((first | with_reducible exact unhide k00 | (refine unhide k0 _ ?_; first | with_reducible assumption | (with_reducible refine below_new _ ?_ (Nat.le_refl _); with_reducible assumption) | (with_reducible refine Below.drew ?_; with_reducible exact below_new _ (Below.refl _ _) (Nat.le_refl _)) | (with_reducible refine below_put5 ?_ ?_ _ _ _ _ _ <;> first | with_reducible assumption | omega)))) (first | (go_at_call 8; go_fit (unhide TA _ (below_two (unhide HB) (unhide kS _ (by with_reducible assumption)))); rintro r y1 ⟨s1, rfl, hpv, hb1⟩; have hW1 := below_after hb1 (unhide kS _ (by with_reducible assumption)) (Nat.le_refl _); have hsz := hb1.size; have hge := hW1.size; (first | (have zz := carry5 (.int .i64 0) (.int .i64 0) (.int .i64 0) (.int .i64 0) (.slice none 0 0) 30 hb1 (by with_reducible assumption); obtain ⟨z0, z1, z2, z3, z4, v0, v1, v2, v3, v4, hz, hzl⟩ := zz) | (have zz := carry5 (.int .i64 0) (.int .i64 0) (.int .i64 0) (.int .i64 0) (.slice none 0 0) 30 hb1 (al1_0 _ _); obtain ⟨z0, z1, z2, z3, z4, v0, v1, v2, v3, v4, hz, hzl⟩ := zz; try simp only [hd] at z0 z1 z2 z3 z4 v0 v1 v2 v3 v4 hz hzl) | skip); have pvA := hide hpv; clear hpv) | (go_at_call 8; go_fit (unhide TB _ (below_two (unhide HB) (unhide kS _ (by with_reducible assumption)))); rintro r y1 ⟨s2, rfl, hpv, hb1⟩; have hW1 := below_after hb1 (unhide kS _ (by with_reducible assumption)) (Nat.le_refl _); have hsz := hb1.size; have hge := hW1.size; (first | (have zz := carry5 (.int .i64 0) (.int .i64 0) (.int .i64 0) (.int .i64 0) (.slice none 0 0) 30 hb1 (by with_reducible assumption); obtain ⟨z0, z1, z2, z3, z4, v0, v1, v2, v3, v4, hz, hzl⟩ := zz) | (have zz := carry5 (.int .i64 0) (.int .i64 0) (.int .i64 0) (.int .i64 0) (.slice none 0 0) 30 hb1 (al1_0 _ _); obtain ⟨z0, z1, z2, z3, z4, v0, v1, v2, v3, v4, hz, hzl⟩ := zz; try simp only [hd] at z0 z1 z2 z3 z4 v0 v1 v2 v3 v4 hz hzl) | skip); (first | (replace pvA := hide ((unhide pvA).next hb1)) | (replace pvA := hide (((unhide pvA).next (al1_below _ _)).next hb1)) | skip); have pvB := hide hpv; clear hpv) | (go_at_call 9; (first | go_fit (unhide I _ _ _ _ _ (unhide pvA) (unhide pvB)) | go_fit (unhide I _ _ _ _ _ ((unhide pvA).next (al1_below _ _)) ((unhide pvB).next (al1_below _ _)))); intro r y1 hres; obtain ⟨a1, c1, rfl, hp1, hb1⟩ := MaskRes.open hres; clear hres; have pr := hide (hp1.low (Below.size (unhide kS _ (by with_reducible assumption)))); (first | (have nq := hide (hp1.notOld (heap_lt (by with_reducible assumption))); skip) | (have nq := hide (hp1.notOld (new_lt _ _)); try simp only [hd] at nq) | skip); have hW1 := below_after hb1 (unhide kS _ (by with_reducible assumption)) (Nat.le_refl _); have hsz := hb1.size; have hge := hW1.size; (first | (have zz := carry5 (.int .i64 0) (.int .i64 0) (.int .i64 0) (.int .i64 0) (.slice none 0 0) 30 hb1 (by with_reducible assumption); obtain ⟨z0, z1, z2, z3, z4, v0, v1, v2, v3, v4, hz, hzl⟩ := zz) | (have zz := carry5 (.int .i64 0) (.int .i64 0) (.int .i64 0) (.int .i64 0) (.slice none 0 0) 30 hb1 (al1_0 _ _); obtain ⟨z0, z1, z2, z3, z4, v0, v1, v2, v3, v4, hz, hzl⟩ := zz; try simp only [hd] at z0 z1 z2 z3 z4 v0 v1 v2 v3 v4 hz hzl) | skip); skip; clear hp1))
          all_goals
            go_wp2_with fail
            go_meet
            first
            | (refine ⟨_, a1, c1, rfl, ?_, ?_, unhide nq, ?_, ?_⟩; exact put5_row hz; exact (unhide pr).put5 (unhide nq); (first | with_reducible exact Nat.le_refl _ | omega); exact unhide kS _ (by with_reducible assumption))
            | exact ⟨_, a1, c1, rfl, new_row _ _, (unhide pr).next (al1_below _ _), (unhide pr).notNew (Nat.le_refl _), hW1.size, unhide kS _ (by with_reducible assumption)⟩
        case rest =>
          obtain ⟨b_R4, a_p4, c_p4, rfl, hr, hp, hnot, hge, hb⟩ := hcut
          have hql := heap_lt hr
          have lo0 := CUR
          replace RA := hide (row_next hb (unhide RA))
          replace RB := hide (row_next hb (unhide RB))
          replace R0 := hide (row_next hb (unhide R0))
          replace R1 := hide (row_next hb (unhide R1))
          replace R2 := hide (row_next hb (unhide R2))
          replace R3 := hide (row_next hb (unhide R3))
          replace p0 := hide ((unhide p0).next hb)
          replace pg := hide ((unhide pg).next hb)
          replace CUR := hide (Nat.le_trans (unhide CUR) (Below.size hb))
          replace HB := hide (below_two (unhide HB) hb)
          clear hb
          obtain ⟨hi_p4, hhi⟩ : ∃ h, h = wc.heap.size := ⟨_, rfl⟩
          replace CUR := hide (show hi_p4 ≤ wc.heap.size by rw [hhi]; exact Nat.le_refl _)
          have B_p4 := hide (show ∀ k, (Value.ownBlock (.slice a_p4 N c_p4)) = some k → w14.heap.size ≤ k ∧ k < hi_p4 from fun k hk => by rw [hhi]; exact hp.lt k hk)
          rw [← hhi] at hql
          clear hhi
          have p4 := hide hp
          have R4 := hide hr
          have nq_R4_p4 := hide hnot
          clear hp hr hnot
          replace hge := hide hge
          replace hql := hide hql
          clear k0 kS k00 hd
          generalize wc = X90 at *
          generalize w14.heap.size = lo_p4 at p4 B_p4 lo0 hge
          replace ORD := hide (And.intro (unhide ORD) (And.intro (unhide lo0) (And.intro (unhide hge) (unhide hql))))
          clear lo0 hge hql
          obtain ⟨q_R4_0, q_R4_1, q_R4_2, q_R4_3, q_R4_4⟩ := row5m (unhide R4)
          obtain ⟨q_R0_0, q_R0_1, q_R0_2, q_R0_3, q_R0_4⟩ := row5m (unhide R0)
          go_wp2_with fail
          clear q_R4_0 q_R4_1 q_R4_2 q_R4_3 q_R4_4 q_R0_0 q_R0_1 q_R0_2 q_R0_3 q_R0_4
          go_fit (unhide EXM _ _ _ _ _ _ _ (unhide p4) (unhide p0))
          rintro r w15 ⟨rfl, hb⟩
          replace RA := hide (row_next hb (unhide RA))
          replace RB := hide (row_next hb (unhide RB))
          replace R0 := hide (row_next hb (unhide R0))
          replace R1 := hide (row_next hb (unhide R1))
          replace R2 := hide (row_next hb (unhide R2))
          replace R3 := hide (row_next hb (unhide R3))
          replace R4 := hide (row_next hb (unhide R4))
          replace p0 := hide ((unhide p0).next hb)
          replace p4 := hide ((unhide p4).next hb)
          replace pg := hide ((unhide pg).next hb)
          replace CUR := hide (Nat.le_trans (unhide CUR) (Below.size hb))
          replace HB := hide (below_two (unhide HB) hb)
          clear hb
          obtain ⟨q_R3_0, q_R3_1, q_R3_2, q_R3_3, q_R3_4⟩ := row5m (unhide R3)
          go_wp2_with fail
          clear q_R3_0 q_R3_1 q_R3_2 q_R3_3 q_R3_4
          go_fit (unhide HXM _ _ _ _ (unhide pg))
          rintro r w16 ⟨rfl, hb⟩
          replace RA := hide (row_next hb (unhide RA))
          replace RB := hide (row_next hb (unhide RB))
          replace R0 := hide (row_next hb (unhide R0))
          replace R1 := hide (row_next hb (unhide R1))
          replace R2 := hide (row_next hb (unhide R2))
          replace R3 := hide (row_next hb (unhide R3))
          replace R4 := hide (row_next hb (unhide R4))
          replace p0 := hide ((unhide p0).next hb)
          replace p4 := hide ((unhide p4).next hb)
          replace pg := hide ((unhide pg).next hb)
          replace CUR := hide (Nat.le_trans (unhide CUR) (Below.size hb))
          replace HB := hide (below_two (unhide HB) hb)
          clear hb
          go_wp2_with fail
          go_ret
          exact ⟨rfl, unhide HB⟩
end Go.Proofs.Ytmhgfikcnhoknaa

/-
  The walks of the program's chapter 5: boxes.
-/
namespace Go.Proofs.Ytmhgfikcnhoknaa
open Go.RowKit

set_option maxHeartbeats 1000000 in
theorem implEmpty_any (a b c d : Int) (w : World) :
    Calls Try.prog 31 #[.agg #[.int .i64 a, .int .i64 b, .int .i64 c, .int .i64 d]] w fun r w' => r = .returned (.bool (emptyB a b c d)) ∧ Below w.heap.size w w' := by
  by_cases h1 : c ≤ a
  · have H : Hid (true = emptyB a b c d) := by unfold Hid emptyB; simp [h1]
    have d1 : decide (c ≤ a) = true := decide_eq_true h1
    go_enter Try.func31, Try.ntmps31
    go_wp2
    go_ret
    exact ⟨ret_bool' (unhide H), al1_below _ _⟩
  · have d1 : decide (c ≤ a) = false := decide_eq_false h1
    by_cases h2 : d ≤ b
    · have H : Hid (true = emptyB a b c d) := by unfold Hid emptyB; simp [h2]
      have d2 : decide (d ≤ b) = true := decide_eq_true h2
      go_enter Try.func31, Try.ntmps31
      go_wp2
      go_ret
      exact ⟨ret_bool' (unhide H), al1_below _ _⟩
    · have H : Hid (false = emptyB a b c d) := by unfold Hid emptyB; simp [h1, h2]
      have d2 : decide (d ≤ b) = false := decide_eq_false h2
      go_enter Try.func31, Try.ntmps31
      go_wp2
      go_ret
      exact ⟨ret_bool' (unhide H), al1_below _ _⟩

set_option maxHeartbeats 1000000 in
set_option maxRecDepth 100000 in
theorem implBoxWithin_any (a b c d L : Int) (hL : 0 ≤ L ∧ L ≤ 41943040) (w : World) :
    Calls Try.prog 53 #[.agg #[.int .i64 a, .int .i64 b, .int .i64 c, .int .i64 d], .int .i64 L] w fun r w' => r = .returned (.agg #[.int .i64 (clampI a (-L) L), .int .i64 (clampI b (-L) L), .int .i64 (clampI c (-L) L), .int .i64 (clampI d (-L) L)]) ∧ Below w.heap.size w w' := by
  have K := hide (fun x => implClamp_any x (-L) L)
  have e0 : IntKind.i64.wrap (-L) = -L := IntWalk.i64_in _ (by omega)
  generalize clampI = cl at K ⊢
  clear hL
  go_enter Try.func53, Try.ntmps53
  go_wp2_with fail
  obtain ⟨W, hW⟩ : ∃ W, W = (w.alloc (.cells #[.int .i64 a, .int .i64 b, .int .i64 c, .int .i64 d] 28)).alloc (.cells #[.int .i64 0, .int .i64 0, .int .i64 0, .int .i64 0] 28) := ⟨_, rfl⟩
  obtain ⟨a0, a1, a2, a3⟩ := row4 (w1 := W) (b := w.heap.size) (by rw [hW]; exact al2_0 _ _ _)
  have R : W.heap[w.heap.size + 1]? = some (.cells #[.int .i64 0, .int .i64 0, .int .i64 0, .int .i64 0] 28 (0, 0)) := by rw [hW]; exact al2_1 _ _ _
  obtain ⟨r0, r1, r2, r3⟩ := row4 R
  obtain ⟨f0, f1, f2, f3⟩ := free4 R
  have HB := hide (show Below w.heap.size w W by rw [hW]; exact al2_below _ _ _)
  rw [← hW]
  clear hW R
  have ne1 : ¬ w.heap.size + 1 = w.heap.size := by omega
  have ne2 : ¬ w.heap.size = w.heap.size + 1 := by omega
  go_region_held3 (fun u => u.cell? ⟨w.heap.size, 0, none⟩ = some (.int .i64 a) ∧ u.cell? ⟨w.heap.size, 1, none⟩ = some (.int .i64 b) ∧ u.cell? ⟨w.heap.size, 2, none⟩ = some (.int .i64 c) ∧ u.cell? ⟨w.heap.size, 3, none⟩ = some (.int .i64 d)) (go_keep) (first | (go_at_call 54; go_fit (unhide K _ _); rintro r w4 ⟨rfl, rfl⟩))
  all_goals
    go_wp2_with fail
    refine bodyPost_ret (v := .agg #[.int .i64 (cl a (-L) L), .int .i64 (cl b (-L) L), .int .i64 (cl c (-L) L), .int .i64 (cl d (-L) L)]) (by simp [results, Try.results53, go_sem, r0, r1, r2, r3]) rfl ⟨rfl, ?_⟩
    exact below_put4 (below_drews (unhide HB) 1) (by omega) _ _ _ _

end Go.Proofs.Ytmhgfikcnhoknaa
