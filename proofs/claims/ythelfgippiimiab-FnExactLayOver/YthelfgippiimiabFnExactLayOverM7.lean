/-
  SurfJ · CurveA · SurfK · LayX · OpenAgg · OpenPts · OpenPath · OpenMask · OpenSurf: texts of one claim, in one.
-/
import Derived.Test.YthelfgippiimiabFnExactLayOverM5
import Derived.Test.YthelfgippiimiabFnExactLayOverM4
import Derived.Test.YthelfgippiimiabFnExactLayOverM6
import Derived.Test.YthelfgippiimiabRows
import Derived.ProofKit
import Derived.OpenShut
import Derived.ChangeArms
import Derived.Test.YthelfgippiimiabFnExactLayOverM1
import Derived.Deep.SlicePairs
import Derived.Test.YthelfgippiimiabFnExactLayOverM2
import Derived.ChangeSlices
import Derived.Deep.Slices

/-
  The program's surfaces that are coated square by square: one laid over another, a mask painted.
-/
namespace Go.Proofs.Ythelfgippiimiab
open Go.RowKit
set_option linter.unusedVariables false

set_option maxHeartbeats 16000000 in
set_option maxRecDepth 100000 in
theorem implCoatedLay_any (c0 c1 c2 : Value) (Gf : Int → Int → B4 → B4) (x y : Int) (f : Nat → B4) (ao : Option Addr) (n cp : Nat) (hS : SOk x y n f) (hc : n ≤ cp) (hao : ao = none → cp = 0) (w : World) (P : ∀ i, i < n → ClAt w ao i (f i))
    (EC : ∀ (u : World) (q j : Nat) (z0 z1 z2 z3 : Int), Below w.heap.size w u → (q : Int) < x → (j : Int) < y → Calls Try.prog 67 #[.int .i64 q, .int .i64 j, .agg #[.int .i64 z0, .int .i64 z1, .int .i64 z2, .int .i64 z3], c0, c1, c2] u fun r u' => r = .returned (.agg #[.int .i64 ((Gf q j ⟨z0, z1, z2, z3⟩).x0), .int .i64 ((Gf q j ⟨z0, z1, z2, z3⟩).y0), .int .i64 ((Gf q j ⟨z0, z1, z2, z3⟩).x1), .int .i64 ((Gf q j ⟨z0, z1, z2, z3⟩).y1)]) ∧ Below u.heap.size u u') :
    Calls Try.prog 66 #[.agg #[.int .i64 x, .int .i64 y, .slice ao n cp], .func (.func 67) #[] #[c0, c1, c2]] w fun r w' => SurfRes w r w' x y n (fun i => Gf ((i : Int) % x) ((i : Int) / x) (f i)) := by
  have sle := hS.le
  have ECP := hide (fun u => implSurfaceCopy_any x y f ao n cp (by omega) hc hao u)
  have EPL := hide (fun qx qy h1 h2 => implPixPlace_any x y qx qy (.slice ao n cp) h1 h2)
  replace EC := hide EC
  replace P := hide P
  have sx := hS.1
  have sy := hS.2.1
  have sn := hide hS.2.2.1
  clear hS
  obtain ⟨G, hG⟩ : ∃ G : Nat → B4, Hid ((fun i : Nat => Gf ((i : Int) % x) ((i : Int) / x) (f i)) = G) := ⟨_, rfl⟩
  have hGk : Hid (∀ k : Nat, G k = Gf ((k : Int) % x) ((k : Int) / x) (f k)) := fun k => by rw [← unhide hG]
  rw [unhide hG]
  clear hG
  unfold SurfRes
  go_enter Try.func66, Try.ntmps66
  go_upto_region 1 with fail
  have R2 := hide (al2_0 w (.cells #[.int .i64 x, .int .i64 y, .slice ao n cp] 62) (.cells #[.int .i64 0, .int .i64 0, .slice none 0 0] 62))
  have R4 := hide (al2_1 w (.cells #[.int .i64 x, .int .i64 y, .slice ao n cp] 62) (.cells #[.int .i64 0, .int .i64 0, .slice none 0 0] 62))
  have HB := hide (al2_below w (.cells #[.int .i64 x, .int .i64 y, .slice ao n cp] 62) (.cells #[.int .i64 0, .int .i64 0, .slice none 0 0] 62))
  obtain ⟨b4, hb4⟩ : ∃ b, Hid (b = w.heap.size + 1) := ⟨_, rfl⟩
  obtain ⟨b2, hb2⟩ : ∃ b, Hid (b = w.heap.size) := ⟨_, rfl⟩
  have lz : Hid (w.heap.size ≤ b4) := by unfold Hid; rw [unhide hb4]; omega
  rw [← unhide hb4] at R4
  rw [← unhide hb2] at R2
  rw [← unhide hb4, ← unhide hb2]
  generalize (w.alloc (.cells #[.int .i64 x, .int .i64 y, .slice ao n cp] 62)).alloc (.cells #[.int .i64 0, .int .i64 0, .slice none 0 0] 62) = W at R2 R4 HB ⊢
  clear hb4 hb2
  obtain ⟨p0, p1, p2⟩ := row3 (unhide R2)
  have l0 := hide (show b2 < W.heap.size ∧ b4 < W.heap.size from ⟨heap_lt (unhide R2), heap_lt (unhide R4)⟩)
  have lW := hide (unhide HB).size
  have E2 := hide (unhide ECP W (fun i hi => (unhide P i hi).next (unhide HB)))
  clear ECP
  go_wp2_with fail
  go_fit (unhide E2)
  rintro r w1 ⟨gp, gc, rfl, hO, hb⟩
  replace R2 := hide (row_next hb (unhide R2))
  replace R4 := hide (row_next hb (unhide R4))
  replace HB := hide (below_two (unhide HB) hb)
  clear hb p0 p1 p2 E2
  replace hO := hide hO
  go_upto_region 2 with fail
  have R5 := hide (new_row w1 (.cells #[.int .i64 x, .int .i64 y, .slice gp n gc] 62))
  have l1 := hide (show ∀ k, (Value.slice gp n gc).ownBlock = some k → W.heap.size ≤ k ∧ k < w1.heap.size from (unhide hO).lt)
  replace R2 := hide (row_next (al1_below w1 (.cells #[.int .i64 x, .int .i64 y, .slice gp n gc] 62)) (unhide R2))
  replace R4 := hide (row_next (al1_below w1 (.cells #[.int .i64 x, .int .i64 y, .slice gp n gc] 62)) (unhide R4))
  replace HB := hide (below_two (unhide HB) (al1_below w1 (.cells #[.int .i64 x, .int .i64 y, .slice gp n gc] 62)))
  replace hO := hide ((unhide hO).next (al1_below w1 (.cells #[.int .i64 x, .int .i64 y, .slice gp n gc] 62)))
  generalize w1.alloc (.cells #[.int .i64 x, .int .i64 y, .slice gp n gc] 62) = W1 at R2 R4 R5 HB hO ⊢
  generalize w1.heap.size = b5 at R5 l1 ⊢
  obtain ⟨gb, rfl⟩ : ∃ gb, gp = some ⟨gb, 0, none⟩ := by
    obtain ⟨xs, o1, _⟩ := unhide hO
    obtain ⟨gb, cap, e, _⟩ := own_at o1 (by omega)
    cases e
    exact ⟨gb, rfl⟩
  have lg := hide (show W.heap.size ≤ gb ∧ gb < b5 from unhide l1 gb rfl)
  clear l1
  have hO0 := hide (show ColsV W1 W.heap.size (.slice (some ⟨gb, 0, none⟩) n gc) n (upTo G f 0) by rw [upTo_none]; exact unhide hO)
  obtain ⟨p0, p1, p2⟩ := row3 (unhide R2)
  go_upto_region 3 with fail
  go_wp2_with fail
  clear p0 p1 p2
  go_loopw [13] (fun i u => ∃ (j k0 : Nat), (j : Int) ≤ y ∧ i = .int .i64 j ∧ Hid ((k0 : Int) = (j : Int) * x) ∧ Hid (u.heap[b2]? = some (.cells #[.int .i64 x, .int .i64 y, .slice ao n cp] 62 (0, 0))) ∧ Hid (u.heap[b4]? = some (.cells #[.int .i64 0, .int .i64 0, .slice none 0 0] 62 (0, 0))) ∧ Hid (u.heap[b5]? = some (.cells #[.int .i64 x, .int .i64 y, .slice (some ⟨gb, 0, none⟩) n gc] 62 (0, 0))) ∧ Hid (Below w.heap.size w u) ∧ Hid (ColsV u W.heap.size (.slice (some ⟨gb, 0, none⟩) n gc) n (upTo G f k0))) (fun i _ => y.toNat - (intOf i).toNat)
  case atStart => exact ⟨0, 0, by omega, rfl, by show ((0 : Nat) : Int) = ((0 : Nat) : Int) * x; omega, R2, R4, R5, HB, hO0⟩
  case round =>
    clear R2 R4 R5 HB hO hO0
    obtain ⟨j, k0, hj, rfl, hk0, R2, R4, R5, HB, hO⟩ := hrel
    by_cases hlt : (j : Int) < y
    · obtain ⟨p0, p1, p2⟩ := row3 (unhide R2)
      go_upto_region 6 with fail
      go_wp2_with fail
      clear p0 p1 p2
      go_loopw [18] (fun i u => ∃ (q k : Nat), (q : Int) ≤ x ∧ i = .int .i64 q ∧ Hid ((k : Int) = (j : Int) * x + (q : Int)) ∧ Hid (u.heap[b2]? = some (.cells #[.int .i64 x, .int .i64 y, .slice ao n cp] 62 (0, 0))) ∧ Hid (u.heap[b4]? = some (.cells #[.int .i64 0, .int .i64 0, .slice none 0 0] 62 (0, 0))) ∧ Hid (u.heap[b5]? = some (.cells #[.int .i64 x, .int .i64 y, .slice (some ⟨gb, 0, none⟩) n gc] 62 (0, 0))) ∧ Hid (Below w.heap.size w u) ∧ Hid (ColsV u W.heap.size (.slice (some ⟨gb, 0, none⟩) n gc) n (upTo G f k))) (fun i _ => x.toNat - (intOf i).toNat)
      case atStart => exact ⟨0, k0, by omega, rfl, by have := unhide hk0; show (k0 : Int) = _ + ((0 : Nat) : Int); omega, R2, R4, R5, HB, hO⟩
      case round =>
        clear R2 R4 R5 HB hO hk0 k0
        obtain ⟨q, k, hq, rfl, hkk, R2, R4, R5, HB, hO⟩ := hrel
        by_cases hqx : (q : Int) < x
        · have hplace := pix_place (y := y) sx.1 (show (0 : Int) ≤ q by omega) (show (q : Int) ≤ x - 1 by omega) (show (0 : Int) ≤ j by omega) (show (j : Int) ≤ y - 1 by omega)
          have hkn : k < n := by have := unhide hkk; have := unhide sn; omega
          have hback := sq_back (x := x) (px := q) (py := j) sx.1 (by omega) hqx
          have EPL1 := hide (unhide EPL q j (IntWalk.i64_in _ (by have := unhide sn; omega)) (IntWalk.i64_in _ (by have := unhide sn; omega)))
          rw [← unhide hkk] at EPL1
          have hGq := hide (unhide hGk k)
          rw [show (k : Int) % x = q by rw [unhide hkk]; exact hback.1, show (k : Int) / x = j by rw [unhide hkk]; exact hback.2] at hGq
          clear hback hplace
          have hkk' := hide (show ((k + 1 : Nat) : Int) = (j : Int) * x + ((q + 1 : Nat) : Int) by have := unhide hkk; omega)
          clear hkk
          have vq : IntKind.i64.wrap ((q : Int) + 1) = (q : Int) + 1 := IntWalk.i64_in _ (by omega)
          obtain ⟨p0, p1, p2⟩ := row3 (unhide R2)
          go_wp2_with fail
          go_fit (unhide EPL1 _)
          rintro r w5 ⟨rfl, hb⟩
          replace R2 := hide (row_next hb (unhide R2))
          replace R4 := hide (row_next hb (unhide R4))
          replace R5 := hide (row_next hb (unhide R5))
          replace HB := hide (below_two (unhide HB) hb)
          replace hO := hide ((unhide hO).next hb)
          clear hb p0 p1 p2 EPL1
          have HP0 := unhide P k hkn
          have HP := HP0.next (unhide HB)
          obtain ⟨zz, hzz⟩ : ∃ zz, Hid (f k = zz) := ⟨_, rfl⟩
          rw [unhide hzz] at HP HP0 hGq
          obtain ⟨z0, z1, z2, z3⟩ := zz
          obtain ⟨s0, o0, rfl, g0, g1, g2, g3⟩ := HP
          obtain ⟨s0', o0', ee, g0', _⟩ := HP0
          cases ee
          have ls0 := hide (show s0 < w.heap.size from block_lt_of_cell g0')
          clear g0'
          dsimp only at g0 g1 g2 g3
          replace g0 := hide g0
          replace g1 := hide g1
          replace g2 := hide g2
          replace g3 := hide g3
          have EC1 := hide (unhide EC w5.drew q j z0 z1 z2 z3 (unhide HB).drew hqx hlt)
          generalize Gf q j ⟨z0, z1, z2, z3⟩ = BB at EC1 hGq
          obtain ⟨B0, B1, B2, B3⟩ := BB
          dsimp only at EC1
          have hkn' : (k : Int) < (n : Int) := by omega
          have hkn0 : ¬ (k : Int) < 0 := by omega
          go_upto_region 9 with fail
          have k0 := hide (show ∀ u, w5.grownBy u (some gb) → (u.cell? ⟨b5, 2, none⟩ = some (.slice (some ⟨gb, 0, none⟩) n gc) ∧ u.cell? ⟨b2, 2, none⟩ = some (.slice (some ⟨s0, o0, none⟩) n cp) ∧ u.cell? ⟨s0, o0 + k * 4, none⟩ = some (.int .i64 z0) ∧ u.cell? ⟨s0, o0 + k * 4 + 1, none⟩ = some (.int .i64 z1) ∧ u.cell? ⟨s0, o0 + k * 4 + 2, none⟩ = some (.int .i64 z2) ∧ u.cell? ⟨s0, o0 + k * 4 + 3, none⟩ = some (.int .i64 z3) ∧ w5.grownBy u (some gb)) from fun u h => by
            obtain ⟨p0, p1, p2⟩ := row3 (row_grown' h (by have := unhide l0; have := unhide lg; omega) (unhide R2))
            obtain ⟨r0, r1, r2⟩ := row3 (row_grown' h (by have := unhide lg; omega) (unhide R5))
            have hs : s0 ≠ gb := by have := unhide ls0; have := unhide lg; have := unhide lW; omega
            exact ⟨r2, p2, cell_grown' h hs (unhide g0), cell_grown' h hs (unhide g1), cell_grown' h hs (unhide g2), cell_grown' h hs (unhide g3), h⟩)
          have k00 := hide (unhide k0 _ (show w5.grownBy w5.drew (some gb) from ⟨rfl, rfl, rfl, Nat.le_refl _, fun _ _ _ => rfl⟩))
          go_region_held3 (fun u => u.cell? ⟨b5, 2, none⟩ = some (.slice (some ⟨gb, 0, none⟩) n gc) ∧ u.cell? ⟨b2, 2, none⟩ = some (.slice (some ⟨s0, o0, none⟩) n cp) ∧ u.cell? ⟨s0, o0 + k * 4, none⟩ = some (.int .i64 z0) ∧ u.cell? ⟨s0, o0 + k * 4 + 1, none⟩ = some (.int .i64 z1) ∧ u.cell? ⟨s0, o0 + k * 4 + 2, none⟩ = some (.int .i64 z2) ∧ u.cell? ⟨s0, o0 + k * 4 + 3, none⟩ = some (.int .i64 z3) ∧ w5.grownBy u (some gb)) ((first | with_reducible exact unhide k00 | (with_reducible refine unhide k0 _ ?_; first | with_reducible assumption | (with_reducible refine grown_put4' ?_ _ _ _ _ _ _ _ _; with_reducible assumption)))) (first | (go_at_call 67; go_fit (unhide EC1); rintro r w9 ⟨rfl, hb9⟩; have h9 := below_undrew hb9; clear hb9; have hg9 := grown_of_below h9 (some gb); obtain ⟨xs9, o9, x9⟩ := (unhide hO).next h9; obtain ⟨y0, y1, y2, y3, t0, t1, t2, t3⟩ := own_cell4 o9 hkn; have f0 := o9.frozenAt (k * 4); have f1 := o9.frozenAt (k * 4 + 1); have f2 := o9.frozenAt (k * 4 + 2); have f3 := o9.frozenAt (k * 4 + 3); replace o9 := hide o9; replace x9 := hide x9))
          all_goals
            go_wp2_with fail
            go_roundw
            case rel =>
              have hgg := grown_put4' hg9 (k * 4) (k * 4 + 1) (k * 4 + 2) (k * 4 + 3) (.int .i64 B0) (.int .i64 B1) (.int .i64 B2) (.int .i64 B3)
              have n5 : b2 ≠ gb ∧ b4 ≠ gb ∧ b5 ≠ gb := by have := unhide l0; have := unhide lg; omega
              refine ⟨q + 1, k + 1, by omega, by go_num, hkk', row_grown' hgg n5.1 (unhide R2), row_grown' hgg n5.2.1 (unhide R4), row_grown' hgg n5.2.2 (unhide R5), below_at4 (below_two (unhide HB) h9) (by have := unhide lg; have := unhide lW; omega) _ _ _ _ _ _ _ _, ?_⟩
              refine ⟨_, own_put4 (unhide o9) _ _ _ _, ?_⟩
              rw [upTo_step, unhide hGq]
              exact bx_put (unhide x9) (unhide o9).1 hkn ⟨B0, B1, B2, B3⟩
            case measure => simp [intOf]; omega
        · have hqe : (q : Int) = x := by omega
          have hk1 := hide (show (k : Int) = ((j + 1 : Nat) : Int) * x by have := unhide hkk; rw [this, hqe]; rw [show ((j + 1 : Nat) : Int) = (j : Int) + 1 by omega, Int.add_mul, Int.one_mul])
          clear hkk
          have vj : IntKind.i64.wrap ((j : Int) + 1) = (j : Int) + 1 := IntWalk.i64_in _ (by omega)
          go_wp2_with fail
          go_roundw
          case rel => exact ⟨j + 1, k, by omega, by go_num, hk1, R2, R4, R5, HB, hO⟩
          case measure => simp [intOf]; omega
    · have hje : (j : Int) = y := by omega
      have hkn := hide (show k0 = n by have h1 := unhide hk0; have h2 := unhide sn; rw [hje, Int.mul_comm] at h1; omega)
      obtain ⟨e0, e1, e2⟩ := row3 (unhide R4)
      obtain ⟨f0, f1, f2⟩ := frozen3 (unhide R4)
      obtain ⟨q0, q1, q2⟩ := row3 (unhide R5)
      go_wp2_with fail
      refine bodyPost_ret (v := .agg #[.int .i64 x, .int .i64 y, .slice (some ⟨gb, 0, none⟩) n gc]) (by simp [results, Try.results66, go_sem, e0, e1, e2]) rfl ⟨_, gc, rfl, ?_, below_put3 (unhide HB) (unhide lz) _ _ _⟩
      obtain ⟨xs, o1, hx1⟩ := unhide hO
      rw [unhide hkn] at hx1
      exact ⟨xs, own_low (own_put3 o1 (fun k hk => by have e : gb = k := Option.some.inj hk; have := unhide lg; have := unhide l0; omega) _ _ _) (unhide lW), fun i hi => by have := hx1 i hi; rw [upTo_all hi] at this; exact this⟩

end Go.Proofs.Ythelfgippiimiab

/-
  Rows of five and six new blocks.
-/
namespace Go.Proofs.Ythelfgippiimiab
open Go.RowKit

theorem al5_size (w : World) (A B C D E : Obj) : (((((w.alloc A).alloc B).alloc C).alloc D).alloc E).heap.size = w.heap.size + 5 := by simp
theorem al5_0 (w : World) (A B C D E : Obj) : (((((w.alloc A).alloc B).alloc C).alloc D).alloc E).heap[w.heap.size]? = some A := (heap_alloc_old _ _ (by rw [al4_size]; omega)).trans (al4_0 w A B C D)
theorem al5_1 (w : World) (A B C D E : Obj) : (((((w.alloc A).alloc B).alloc C).alloc D).alloc E).heap[w.heap.size + 1]? = some B := (heap_alloc_old _ _ (by rw [al4_size]; omega)).trans (al4_1 w A B C D)
theorem al5_2 (w : World) (A B C D E : Obj) : (((((w.alloc A).alloc B).alloc C).alloc D).alloc E).heap[w.heap.size + 1 + 1]? = some C := (heap_alloc_old _ _ (by rw [al4_size]; omega)).trans (al4_2 w A B C D)
theorem al5_3 (w : World) (A B C D E : Obj) : (((((w.alloc A).alloc B).alloc C).alloc D).alloc E).heap[w.heap.size + 1 + 1 + 1]? = some D := (heap_alloc_old _ _ (by rw [al4_size]; omega)).trans (al4_3 w A B C D)
theorem al5_4 (w : World) (A B C D E : Obj) : (((((w.alloc A).alloc B).alloc C).alloc D).alloc E).heap[w.heap.size + 1 + 1 + 1 + 1]? = some E := by have h := heap_alloc_new ((((w.alloc A).alloc B).alloc C).alloc D) E; rw [al4_size] at h; exact h
theorem al5_below (w : World) (A B C D E : Obj) : Below w.heap.size w (((((w.alloc A).alloc B).alloc C).alloc D).alloc E) := (al4_below w A B C D).alloc (by rw [al4_size]; omega) _

theorem al6_size (w : World) (A B C D E F : Obj) : ((((((w.alloc A).alloc B).alloc C).alloc D).alloc E).alloc F).heap.size = w.heap.size + 6 := by simp
theorem al6_0 (w : World) (A B C D E F : Obj) : ((((((w.alloc A).alloc B).alloc C).alloc D).alloc E).alloc F).heap[w.heap.size]? = some A := (heap_alloc_old _ _ (by rw [al5_size]; omega)).trans (al5_0 w A B C D E)
theorem al6_1 (w : World) (A B C D E F : Obj) : ((((((w.alloc A).alloc B).alloc C).alloc D).alloc E).alloc F).heap[w.heap.size + 1]? = some B := (heap_alloc_old _ _ (by rw [al5_size]; omega)).trans (al5_1 w A B C D E)
theorem al6_2 (w : World) (A B C D E F : Obj) : ((((((w.alloc A).alloc B).alloc C).alloc D).alloc E).alloc F).heap[w.heap.size + 1 + 1]? = some C := (heap_alloc_old _ _ (by rw [al5_size]; omega)).trans (al5_2 w A B C D E)
theorem al6_3 (w : World) (A B C D E F : Obj) : ((((((w.alloc A).alloc B).alloc C).alloc D).alloc E).alloc F).heap[w.heap.size + 1 + 1 + 1]? = some D := (heap_alloc_old _ _ (by rw [al5_size]; omega)).trans (al5_3 w A B C D E)
theorem al6_4 (w : World) (A B C D E F : Obj) : ((((((w.alloc A).alloc B).alloc C).alloc D).alloc E).alloc F).heap[w.heap.size + 1 + 1 + 1 + 1]? = some E := (heap_alloc_old _ _ (by rw [al5_size]; omega)).trans (al5_4 w A B C D E)
theorem al6_5 (w : World) (A B C D E F : Obj) : ((((((w.alloc A).alloc B).alloc C).alloc D).alloc E).alloc F).heap[w.heap.size + 1 + 1 + 1 + 1 + 1]? = some F := by have h := heap_alloc_new (((((w.alloc A).alloc B).alloc C).alloc D).alloc E) F; rw [al5_size] at h; exact h
theorem al6_below (w : World) (A B C D E F : Obj) : Below w.heap.size w ((((((w.alloc A).alloc B).alloc C).alloc D).alloc E).alloc F) := (al5_below w A B C D E).alloc (by rw [al5_size]; omega) _

theorem keep222 {B : Nat} {W u : World} {b0 b1 b2 : Nat} {t0 t1 t2 : TypeId} {x0_0 x0_1 x1_0 x1_1 x2_0 x2_1 : Value} (h0 : W.heap[b0]? = some (.cells #[x0_0, x0_1] t0 (0, 0))) (l0 : b0 < B) (h1 : W.heap[b1]? = some (.cells #[x1_0, x1_1] t1 (0, 0))) (l1 : b1 < B) (h2 : W.heap[b2]? = some (.cells #[x2_0, x2_1] t2 (0, 0))) (l2 : b2 < B) (h : Below B W u) :
    u.cell? ⟨b0, 0, none⟩ = some x0_0 ∧ u.cell? ⟨b0, 1, none⟩ = some x0_1 ∧ u.cell? ⟨b1, 0, none⟩ = some x1_0 ∧ u.cell? ⟨b1, 1, none⟩ = some x1_1 ∧ u.cell? ⟨b2, 0, none⟩ = some x2_0 ∧ u.cell? ⟨b2, 1, none⟩ = some x2_1 ∧ Below B W u := by
  have e0 := (h.block b0 l0).trans h0
  have e1 := (h.block b1 l1).trans h1
  have e2 := (h.block b2 l2).trans h2
  exact ⟨cell_of_row _ _ _ _ _ _ e0, cell_of_row _ _ _ _ _ _ e0, cell_of_row _ _ _ _ _ _ e1, cell_of_row _ _ _ _ _ _ e1, cell_of_row _ _ _ _ _ _ e2, cell_of_row _ _ _ _ _ _ e2, h⟩

theorem keep2222 {B : Nat} {W u : World} {b0 b1 b2 b3 : Nat} {t0 t1 t2 t3 : TypeId} {x0_0 x0_1 x1_0 x1_1 x2_0 x2_1 x3_0 x3_1 : Value} (h0 : W.heap[b0]? = some (.cells #[x0_0, x0_1] t0 (0, 0))) (l0 : b0 < B) (h1 : W.heap[b1]? = some (.cells #[x1_0, x1_1] t1 (0, 0))) (l1 : b1 < B) (h2 : W.heap[b2]? = some (.cells #[x2_0, x2_1] t2 (0, 0))) (l2 : b2 < B) (h3 : W.heap[b3]? = some (.cells #[x3_0, x3_1] t3 (0, 0))) (l3 : b3 < B) (h : Below B W u) :
    u.cell? ⟨b0, 0, none⟩ = some x0_0 ∧ u.cell? ⟨b0, 1, none⟩ = some x0_1 ∧ u.cell? ⟨b1, 0, none⟩ = some x1_0 ∧ u.cell? ⟨b1, 1, none⟩ = some x1_1 ∧ u.cell? ⟨b2, 0, none⟩ = some x2_0 ∧ u.cell? ⟨b2, 1, none⟩ = some x2_1 ∧ u.cell? ⟨b3, 0, none⟩ = some x3_0 ∧ u.cell? ⟨b3, 1, none⟩ = some x3_1 ∧ Below B W u := by
  have e0 := (h.block b0 l0).trans h0
  have e1 := (h.block b1 l1).trans h1
  have e2 := (h.block b2 l2).trans h2
  have e3 := (h.block b3 l3).trans h3
  exact ⟨cell_of_row _ _ _ _ _ _ e0, cell_of_row _ _ _ _ _ _ e0, cell_of_row _ _ _ _ _ _ e1, cell_of_row _ _ _ _ _ _ e1, cell_of_row _ _ _ _ _ _ e2, cell_of_row _ _ _ _ _ _ e2, cell_of_row _ _ _ _ _ _ e3, cell_of_row _ _ _ _ _ _ e3, h⟩

end Go.Proofs.Ythelfgippiimiab

/-
  The program's surface that is laid over another.
-/
namespace Go.Proofs.Ythelfgippiimiab
open Go.RowKit
set_option linter.unusedVariables false

theorem cell1_row {w1 : World} {b : Nat} {x : Value} {t : TypeId} (h : w1.heap[b]? = some (.cells #[x] t (0, 0))) : w1.cell? ⟨b, 0, none⟩ = some x := by simp [World.cell?, h]

set_option maxHeartbeats 8000000 in
set_option maxRecDepth 100000 in
theorem implLay1_any (qm qt qf : Nat) (mode fade x y : Int) (ao : Option Addr) (n cp : Nat) (hn : n ≤ 1048576) (px py : Int) (k : Nat) (hk : k < n) (hpl : py * x + px = (k : Int)) (v1 : IntKind.i64.wrap (py * x) = py * x) (v2 : IntKind.i64.wrap (py * x + px) = py * x + px) (C : B4) (z0 z1 z2 z3 : Int) (w : World)
    (m0 : w.cell? ⟨qm, 0, none⟩ = some (.int .i64 mode)) (f0 : w.cell? ⟨qf, 0, none⟩ = some (.int .i64 fade)) (t0 : w.cell? ⟨qt, 0, none⟩ = some (.int .i64 x)) (t1 : w.cell? ⟨qt, 1, none⟩ = some (.int .i64 y)) (t2 : w.cell? ⟨qt, 2, none⟩ = some (.slice ao n cp)) (P : ClAt w ao k C) :
    Calls Try.prog 67 #[.int .i64 px, .int .i64 py, .agg #[.int .i64 z0, .int .i64 z1, .int .i64 z2, .int .i64 z3], .pointer (some ⟨qm, 0, none⟩), .pointer (some ⟨qt, 0, none⟩), .pointer (some ⟨qf, 0, none⟩)] w fun r w' => r = .returned (.agg #[.int .i64 ((layC mode fade ⟨z0, z1, z2, z3⟩ C).x0), .int .i64 ((layC mode fade ⟨z0, z1, z2, z3⟩ C).y0), .int .i64 ((layC mode fade ⟨z0, z1, z2, z3⟩ C).x1), .int .i64 ((layC mode fade ⟨z0, z1, z2, z3⟩ C).y1)]) ∧ Below w.heap.size w w' := by
  obtain ⟨C0, C1, C2, C3⟩ := C
  have EPL := hide (implPixPlace_any x y px py (.slice ao n cp) v1 v2)
  rw [hpl] at EPL
  have EF := hide (implFade_any C0 C1 C2 C3 fade)
  unfold layC
  generalize fadeC ⟨C0, C1, C2, C3⟩ fade = D at EF ⊢
  obtain ⟨D0, D1, D2, D3⟩ := D
  dsimp only at EF
  have EB := hide (implBlend_any mode D0 D1 D2 D3 z0 z1 z2 z3)
  generalize blendC mode ⟨D0, D1, D2, D3⟩ ⟨z0, z1, z2, z3⟩ = E at EB ⊢
  obtain ⟨s0, o0, rfl, g0, g1, g2, g3⟩ := P
  dsimp only at g0 g1 g2 g3
  have lt := hide (show qm < w.heap.size ∧ qf < w.heap.size ∧ qt < w.heap.size ∧ s0 < w.heap.size from ⟨block_lt_of_cell m0, block_lt_of_cell f0, block_lt_of_cell t0, block_lt_of_cell g0⟩)
  have kk := hide (show ∀ u, Below w.heap.size w u → (u.cell? ⟨qm, 0, none⟩ = some (.int .i64 mode) ∧ u.cell? ⟨qf, 0, none⟩ = some (.int .i64 fade) ∧ u.cell? ⟨qt, 0, none⟩ = some (.int .i64 x) ∧ u.cell? ⟨qt, 1, none⟩ = some (.int .i64 y) ∧ u.cell? ⟨qt, 2, none⟩ = some (.slice (some ⟨s0, o0, none⟩) n cp) ∧ u.cell? ⟨s0, o0 + k * 4, none⟩ = some (.int .i64 C0) ∧ u.cell? ⟨s0, o0 + k * 4 + 1, none⟩ = some (.int .i64 C1) ∧ u.cell? ⟨s0, o0 + k * 4 + 2, none⟩ = some (.int .i64 C2) ∧ u.cell? ⟨s0, o0 + k * 4 + 3, none⟩ = some (.int .i64 C3)) from fun u h => ⟨kc h m0, kc h f0, kc h t0, kc h t1, kc h t2, kc h g0, kc h g1, kc h g2, kc h g3⟩)
  clear m0 f0 t0 t1 t2 g0 g1 g2 g3 v1 v2 hpl
  have hkn' : (k : Int) < (n : Int) := by omega
  have hkn0 : ¬ (k : Int) < 0 := by omega
  go_enter Try.func67, Try.ntmps67
  go_upto_region 1 with fail
  have R8 := hide (al2_0 w (.cells #[.int .i64 z0, .int .i64 z1, .int .i64 z2, .int .i64 z3] 37) (.cells #[.int .i64 0, .int .i64 0, .int .i64 0, .int .i64 0] 37))
  have R9 := hide (al2_1 w (.cells #[.int .i64 z0, .int .i64 z1, .int .i64 z2, .int .i64 z3] 37) (.cells #[.int .i64 0, .int .i64 0, .int .i64 0, .int .i64 0] 37))
  have HB := hide (al2_below w (.cells #[.int .i64 z0, .int .i64 z1, .int .i64 z2, .int .i64 z3] 37) (.cells #[.int .i64 0, .int .i64 0, .int .i64 0, .int .i64 0] 37))
  obtain ⟨b9, hb9⟩ : ∃ b, Hid (b = w.heap.size + 1) := ⟨_, rfl⟩
  obtain ⟨b8, hb8⟩ : ∃ b, Hid (b = w.heap.size) := ⟨_, rfl⟩
  have lz : Hid (w.heap.size ≤ b9 ∧ b8 < b9 ∧ qm < b9 ∧ qf < b9 ∧ qt < b9 ∧ s0 < b9) := by have := unhide lt; unfold Hid; rw [unhide hb9, unhide hb8]; omega
  rw [← unhide hb9] at R9
  rw [← unhide hb8] at R8
  rw [← unhide hb9, ← unhide hb8]
  generalize (w.alloc (.cells #[.int .i64 z0, .int .i64 z1, .int .i64 z2, .int .i64 z3] 37)).alloc (.cells #[.int .i64 0, .int .i64 0, .int .i64 0, .int .i64 0] 37) = W at R8 R9 HB ⊢
  clear hb9 hb8 lt
  have l9 := hide (show b9 < W.heap.size from heap_lt (unhide R9))
  have ne1 : ¬ b9 = qm := by have := unhide lz; omega
  have ne2 : ¬ qm = b9 := by have := unhide lz; omega
  have ne3 : ¬ b9 = qf := by have := unhide lz; omega
  have ne4 : ¬ qf = b9 := by have := unhide lz; omega
  have ne5 : ¬ b9 = qt := by have := unhide lz; omega
  have ne6 : ¬ qt = b9 := by have := unhide lz; omega
  have ne7 : ¬ b9 = s0 := by have := unhide lz; omega
  have ne8 : ¬ s0 = b9 := by have := unhide lz; omega
  have ne9 : ¬ b9 = b8 := by have := unhide lz; omega
  have ne10 : ¬ b8 = b9 := by have := unhide lz; omega
  have k0 := hide (show ∀ u, Below b9 W u → (u.cell? ⟨qm, 0, none⟩ = some (.int .i64 mode) ∧ u.cell? ⟨qf, 0, none⟩ = some (.int .i64 fade) ∧ u.cell? ⟨qt, 0, none⟩ = some (.int .i64 x) ∧ u.cell? ⟨qt, 1, none⟩ = some (.int .i64 y) ∧ u.cell? ⟨qt, 2, none⟩ = some (.slice (some ⟨s0, o0, none⟩) n cp) ∧ u.cell? ⟨s0, o0 + k * 4, none⟩ = some (.int .i64 C0) ∧ u.cell? ⟨s0, o0 + k * 4 + 1, none⟩ = some (.int .i64 C1) ∧ u.cell? ⟨s0, o0 + k * 4 + 2, none⟩ = some (.int .i64 C2) ∧ u.cell? ⟨s0, o0 + k * 4 + 3, none⟩ = some (.int .i64 C3) ∧ u.cell? ⟨b8, 0, none⟩ = some (.int .i64 z0) ∧ u.cell? ⟨b8, 1, none⟩ = some (.int .i64 z1) ∧ u.cell? ⟨b8, 2, none⟩ = some (.int .i64 z2) ∧ u.cell? ⟨b8, 3, none⟩ = some (.int .i64 z3) ∧ Below b9 W u) from fun u h => by
    obtain ⟨a0, a1, a2, a3⟩ := row4 ((h.block b8 (unhide lz).2.1).trans (unhide R8))
    obtain ⟨c0, c1, c2, c3, c4, c5, c6, c7, c8⟩ := unhide kk u ((unhide HB).trans (h.mono (unhide lz).1))
    exact ⟨c0, c1, c2, c3, c4, c5, c6, c7, c8, a0, a1, a2, a3, h⟩)
  have k00 := hide (unhide k0 _ (Below.refl _ _).drew)
  clear kk
  go_region_held3 (fun u => u.cell? ⟨qm, 0, none⟩ = some (.int .i64 mode) ∧ u.cell? ⟨qf, 0, none⟩ = some (.int .i64 fade) ∧ u.cell? ⟨qt, 0, none⟩ = some (.int .i64 x) ∧ u.cell? ⟨qt, 1, none⟩ = some (.int .i64 y) ∧ u.cell? ⟨qt, 2, none⟩ = some (.slice (some ⟨s0, o0, none⟩) n cp) ∧ u.cell? ⟨s0, o0 + k * 4, none⟩ = some (.int .i64 C0) ∧ u.cell? ⟨s0, o0 + k * 4 + 1, none⟩ = some (.int .i64 C1) ∧ u.cell? ⟨s0, o0 + k * 4 + 2, none⟩ = some (.int .i64 C2) ∧ u.cell? ⟨s0, o0 + k * 4 + 3, none⟩ = some (.int .i64 C3) ∧ u.cell? ⟨b8, 0, none⟩ = some (.int .i64 z0) ∧ u.cell? ⟨b8, 1, none⟩ = some (.int .i64 z1) ∧ u.cell? ⟨b8, 2, none⟩ = some (.int .i64 z2) ∧ u.cell? ⟨b8, 3, none⟩ = some (.int .i64 z3) ∧ Below b9 W u) ((first | with_reducible exact unhide k00 | (with_reducible refine unhide k0 _ ?_; first | with_reducible exact Below.mono (by assumption) (Nat.le_of_lt (unhide l9)) | (with_reducible refine below_put4 ?_ (Nat.le_refl _) _ _ _ _; with_reducible exact Below.mono (by assumption) (Nat.le_of_lt (unhide l9)))))) (first | (go_at_call 69; go_fit (unhide EPL _); rintro e w4 ⟨rfl, hb4⟩; have h4 := below_undrew hb4; clear hb4) | (go_at_call 68; go_fit (unhide EF _); rintro e w5 ⟨rfl, hb5⟩; have h5 := below_two h4 hb5; clear h4 hb5) | (go_at_call 20; go_fit (unhide EB _); rintro e w6 ⟨rfl, hb6⟩; have h6 := below_two h5 hb6; clear h5 hb6; obtain ⟨e0, e1, e2, e3⟩ := row4 (row_next h6 (unhide R9)); obtain ⟨f0, f1, f2, f3⟩ := free4 (row_next h6 (unhide R9))))
  all_goals
    go_wp2_with fail
    refine bodyPost_ret (v := .agg #[.int .i64 E.x0, .int .i64 E.y0, .int .i64 E.x1, .int .i64 E.y1]) (by simp [results, Try.results67, go_sem, e0, e1, e2, e3]) rfl ⟨rfl, ?_⟩
    exact below_put4 (below_two (unhide HB) h6) (unhide lz).1 _ _ _ _

set_option maxHeartbeats 16000000 in
set_option maxRecDepth 100000 in
theorem implLayOver_any (x y : Int) (f : Nat → B4) (ao : Option Addr) (n ca : Nat) (hn : n ≤ 1048576) (hca : n ≤ ca) (hao : ao = none → ca = 0) (x' y' : Int) (f' : Nat → B4) (bo : Option Addr) (m cb : Nat) (hm : m ≤ 1048576) (hcb : m ≤ cb) (hbo : bo = none → cb = 0) (mode fade : Int) (w : World) (P : ∀ i, i < n → ClAt w ao i (f i)) (Q : ∀ i, i < m → ClAt w bo i (f' i)) :
    Calls Try.prog 27 #[.agg #[.int .i64 x, .int .i64 y, .slice ao n ca], .agg #[.int .i64 x', .int .i64 y', .slice bo m cb], .int .i64 mode, .int .i64 fade] w fun r w' => SurfRes w r w' x y n (layOn mode fade x y n f x' y' m f') := by
  have EO := hide (fun u => implSurfaceOk_any x y f ao n ca hn hca hao u)
  have EM := hide (fun u => implSurfaceOk_any x' y' f' bo m cb hm hcb hbo u)
  have ECP := hide (fun u => implSurfaceCopy_any x y f ao n ca hn hca hao u)
  have hF : Hid (layOn mode fade x y n f x' y' m f' = if surfOkB x y n f = true ∧ surfOkB x' y' m f' = true ∧ x = x' ∧ y = y' then (fun i => layC mode fade (f i) (f' i)) else f) := rfl
  have hS : Hid (surfOkB x y n f = true → SOk x y n f) := fun h => surfOk_iff.1 h
  have hT : Hid (surfOkB x' y' m f' = true → SOk x' y' m f') := fun h => surfOk_iff.1 h
  replace P := hide P
  replace Q := hide Q
  generalize surfOkB x y n f = X1 at EO hF hS
  generalize surfOkB x' y' m f' = X2 at EM hF hT
  generalize layOn mode fade x y n f x' y' m f' = F at hF ⊢
  unfold SurfRes
  go_enter Try.func27, Try.ntmps27
  go_upto_region 1 with fail
  have R4 := hide (al5_0 w (.cells #[.int .i64 x, .int .i64 y, .slice ao n ca] 62) (.cells #[.int .i64 x', .int .i64 y', .slice bo m cb] 62) (.cells #[.int .i64 mode] 3) (.cells #[.int .i64 fade] 3) (.cells #[.int .i64 0, .int .i64 0, .slice none 0 0] 62))
  have R5 := hide (al5_1 w (.cells #[.int .i64 x, .int .i64 y, .slice ao n ca] 62) (.cells #[.int .i64 x', .int .i64 y', .slice bo m cb] 62) (.cells #[.int .i64 mode] 3) (.cells #[.int .i64 fade] 3) (.cells #[.int .i64 0, .int .i64 0, .slice none 0 0] 62))
  have R6 := hide (al5_2 w (.cells #[.int .i64 x, .int .i64 y, .slice ao n ca] 62) (.cells #[.int .i64 x', .int .i64 y', .slice bo m cb] 62) (.cells #[.int .i64 mode] 3) (.cells #[.int .i64 fade] 3) (.cells #[.int .i64 0, .int .i64 0, .slice none 0 0] 62))
  have R7 := hide (al5_3 w (.cells #[.int .i64 x, .int .i64 y, .slice ao n ca] 62) (.cells #[.int .i64 x', .int .i64 y', .slice bo m cb] 62) (.cells #[.int .i64 mode] 3) (.cells #[.int .i64 fade] 3) (.cells #[.int .i64 0, .int .i64 0, .slice none 0 0] 62))
  have R8 := hide (al5_4 w (.cells #[.int .i64 x, .int .i64 y, .slice ao n ca] 62) (.cells #[.int .i64 x', .int .i64 y', .slice bo m cb] 62) (.cells #[.int .i64 mode] 3) (.cells #[.int .i64 fade] 3) (.cells #[.int .i64 0, .int .i64 0, .slice none 0 0] 62))
  have HB := hide (al5_below w (.cells #[.int .i64 x, .int .i64 y, .slice ao n ca] 62) (.cells #[.int .i64 x', .int .i64 y', .slice bo m cb] 62) (.cells #[.int .i64 mode] 3) (.cells #[.int .i64 fade] 3) (.cells #[.int .i64 0, .int .i64 0, .slice none 0 0] 62))
  obtain ⟨b8, hb8⟩ : ∃ b, Hid (b = w.heap.size + 1 + 1 + 1 + 1) := ⟨_, rfl⟩
  obtain ⟨b7, hb7⟩ : ∃ b, Hid (b = w.heap.size + 1 + 1 + 1) := ⟨_, rfl⟩
  obtain ⟨b6, hb6⟩ : ∃ b, Hid (b = w.heap.size + 1 + 1) := ⟨_, rfl⟩
  obtain ⟨b5, hb5⟩ : ∃ b, Hid (b = w.heap.size + 1) := ⟨_, rfl⟩
  obtain ⟨b4, hb4⟩ : ∃ b, Hid (b = w.heap.size) := ⟨_, rfl⟩
  have lz : Hid (w.heap.size ≤ b8) := by unfold Hid; rw [unhide hb8]; omega
  rw [← unhide hb8] at R8
  rw [← unhide hb7] at R7
  rw [← unhide hb6] at R6
  rw [← unhide hb5] at R5
  rw [← unhide hb4] at R4
  rw [← unhide hb8, ← unhide hb7, ← unhide hb6, ← unhide hb5, ← unhide hb4]
  generalize ((((w.alloc (.cells #[.int .i64 x, .int .i64 y, .slice ao n ca] 62)).alloc (.cells #[.int .i64 x', .int .i64 y', .slice bo m cb] 62)).alloc (.cells #[.int .i64 mode] 3)).alloc (.cells #[.int .i64 fade] 3)).alloc (.cells #[.int .i64 0, .int .i64 0, .slice none 0 0] 62) = W at R4 R5 R6 R7 R8 HB ⊢
  clear hb8 hb7 hb6 hb5 hb4
  have E2 := hide (unhide EO W (fun i hi => (unhide P i hi).next (unhide HB)))
  obtain ⟨p0, p1, p2⟩ := row3 (unhide R4)
  go_wp2_with fail
  go_fit (unhide E2)
  rintro r w1 ⟨rfl, hb⟩
  replace R4 := hide (row_next hb (unhide R4))
  replace R5 := hide (row_next hb (unhide R5))
  replace R6 := hide (row_next hb (unhide R6))
  replace R7 := hide (row_next hb (unhide R7))
  replace R8 := hide (row_next hb (unhide R8))
  replace HB := hide (below_two (unhide HB) hb)
  clear hb p0 p1 p2 E2 EO
  cases X1 with
  | false =>
    have hFn := hide (show F = f by rw [unhide hF, if_neg (by rintro ⟨h, _⟩; cases h)])
    obtain ⟨p0, p1, p2⟩ := row3 (unhide R4)
    have E2 := hide (unhide ECP w1 (fun i hi => (unhide P i hi).next (unhide HB)))
    go_wp2_with fail
    go_fit (unhide E2)
    rintro r w2 ⟨gp, gc, rfl, hO, hb⟩
    have lW := hide (unhide HB).size
    have l8 := hide (heap_lt (unhide R8))
    replace R8 := hide (row_next hb (unhide R8))
    replace HB := hide (below_two (unhide HB) hb)
    clear hb p0 p1 p2 E2
    replace hO := hide hO
    obtain ⟨e0, e1, e2⟩ := row3 (unhide R8)
    obtain ⟨f0, f1, f2⟩ := frozen3 (unhide R8)
    go_wp2_with fail
    refine bodyPost_ret (v := .agg #[.int .i64 x, .int .i64 y, .slice gp n gc]) (by simp [results, Try.results27, go_sem, e0, e1, e2]) rfl ⟨gp, gc, rfl, ?_, below_put3 (unhide HB) (unhide lz) _ _ _⟩
    obtain ⟨xs, o1, hx1⟩ := unhide hO
    rw [unhide hFn]
    exact ⟨xs, own_low (own_put3 o1 (fun k hk => by have := (o1.lt k hk).1; have := unhide l8; omega) _ _ _) (unhide lW), hx1⟩
  | true =>
  obtain ⟨p0, p1, p2⟩ := row3 (unhide R5)
  have E2 := hide (unhide EM w1 (fun i hi => (unhide Q i hi).next (unhide HB)))
  go_wp2_with fail
  go_fit (unhide E2)
  rintro r w1' ⟨rfl, hb⟩
  replace R4 := hide (row_next hb (unhide R4))
  replace R5 := hide (row_next hb (unhide R5))
  replace R6 := hide (row_next hb (unhide R6))
  replace R7 := hide (row_next hb (unhide R7))
  replace R8 := hide (row_next hb (unhide R8))
  replace HB := hide (below_two (unhide HB) hb)
  clear hb p0 p1 p2 E2 EM
  clear w1
  by_cases hall : X2 = true ∧ x = x' ∧ y = y'
  · obtain ⟨rfl, rfl, rfl⟩ := hall
    have sok := unhide hS (by trivial)
    have sok' := unhide hT (by trivial)
    have hnn : n = m := by have h1 := sok.2.2.1; have h2 := sok'.2.2.1; omega
    subst hnn
    have hFy := hide (show F = (fun i => layC mode fade (f i) (f' i)) by rw [unhide hF, if_pos ⟨by trivial, by trivial, rfl, rfl⟩])
    clear hF hT hS ECP
    have sx := sok.1
    have sn := sok.2.2.1
    have hle := sok.le
    have EC := hide (implCoatedLay_any (.pointer (some ⟨b6, 0, none⟩)) (.pointer (some ⟨b5, 0, none⟩)) (.pointer (some ⟨b7, 0, none⟩)) (fun q j s => layC mode fade s (f' (j * x + q).toNat)) x y f ao n ca sok hca hao w1' (fun i hi => (unhide P i hi).next (unhide HB)) (fun u q j z0 z1 z2 z3 hu hq hj => by
      have hplace := pix_place (y := y) sx.1 (show (0 : Int) ≤ q by omega) (show (q : Int) ≤ x - 1 by omega) (show (0 : Int) ≤ j by omega) (show (j : Int) ≤ y - 1 by omega)
      obtain ⟨t0, t1, t2⟩ := row3 (row_next hu (unhide R5))
      exact implLay1_any b6 b5 b7 mode fade x y bo n cb hm q j ((j : Int) * x + q).toNat (by omega) (by omega) (IntWalk.i64_in _ (by omega)) (IntWalk.i64_in _ (by omega)) (f' ((j : Int) * x + q).toNat) z0 z1 z2 z3 u (cell1_row (row_next hu (unhide R6))) (cell1_row (row_next hu (unhide R7))) t0 t1 t2 ((unhide Q _ (by omega)).next (below_two (unhide HB) hu))))
    have hFx := hide (show F = (fun i : Nat => (fun (q j : Int) (s : B4) => layC mode fade s (f' (j * x + q).toNat)) ((i : Int) % x) ((i : Int) / x) (f i)) by
      rw [unhide hFy]
      funext i
      have e : (i : Int) / x * x + (i : Int) % x = (i : Int) := by rw [Int.mul_comm]; exact Int.mul_ediv_add_emod _ _
      show _ = layC mode fade (f i) (f' ((i : Int) / x * x + (i : Int) % x).toNat)
      rw [e, Int.toNat_natCast])
    rw [← unhide hFx] at EC
    clear hFx hFy sok sok' sx sn
    obtain ⟨p0, p1, p2⟩ := row3 (unhide R4)
    obtain ⟨t0, t1, t2⟩ := row3 (unhide R5)
    go_wp2_with fail
    go_fit (unhide EC)
    rintro r w2 ⟨gp, gc, rfl, hO, hb⟩
    have lW := hide (unhide HB).size
    have l8 := hide (heap_lt (unhide R8))
    replace R8 := hide (row_next hb (unhide R8))
    replace HB := hide (below_two (unhide HB) hb)
    clear hb p0 p1 p2 t0 t1 t2 EC
    replace hO := hide hO
    obtain ⟨e0, e1, e2⟩ := row3 (unhide R8)
    obtain ⟨f0, f1, f2⟩ := frozen3 (unhide R8)
    go_wp2_with fail
    refine bodyPost_ret (v := .agg #[.int .i64 x, .int .i64 y, .slice gp n gc]) (by simp [results, Try.results27, go_sem, e0, e1, e2]) rfl ⟨gp, gc, rfl, ?_, below_put3 (unhide HB) (unhide lz) _ _ _⟩
    obtain ⟨xs, o1, hx1⟩ := unhide hO
    exact ⟨xs, own_low (own_put3 o1 (fun k hk => by have := (o1.lt k hk).1; have := unhide l8; omega) _ _ _) (unhide lW), hx1⟩
  · have hFn := hide (show F = f by rw [unhide hF, if_neg (by rintro ⟨_, h⟩; exact hall h)])
    have E2 := hide (unhide ECP w1' (fun i hi => (unhide P i hi).next (unhide HB)))
    clear hF hS hT ECP
    obtain ⟨p0, p1, p2⟩ := row3 (unhide R4)
    obtain ⟨t0, t1, t2⟩ := row3 (unhide R5)
    have hway : Hid (X2 = false ∨ (X2 = true ∧ (x == x') = false) ∨ (X2 = true ∧ x = x' ∧ (y == y') = false)) := by
      unfold Hid
      cases X2 with
      | false => exact Or.inl rfl
      | true =>
        refine Or.inr ?_
        by_cases h1 : x = x'
        · refine Or.inr ⟨rfl, h1, beq_eq_false_iff_ne.2 (fun h2 => hall ⟨rfl, h1, h2⟩)⟩
        · exact Or.inl ⟨rfl, beq_eq_false_iff_ne.2 h1⟩
    have l8 := hide (heap_lt (unhide R8))
    have lW := hide (unhide HB).size
    clear hall
    rcases unhide hway with rfl | ⟨rfl, hx⟩ | ⟨rfl, rfl, hy⟩
    all_goals
      clear hway
      go_wp2_with fail
      go_fit (unhide E2)
      rintro r w2 ⟨gp, gc, rfl, hO, hb⟩
      replace R8 := hide (row_next hb (unhide R8))
      replace HB := hide (below_two (unhide HB) hb)
      clear hb p0 p1 p2 t0 t1 t2 E2
      replace hO := hide hO
      obtain ⟨e0, e1, e2⟩ := row3 (unhide R8)
      obtain ⟨f0, f1, f2⟩ := frozen3 (unhide R8)
      go_wp2_with fail
      refine bodyPost_ret (v := .agg #[.int .i64 x, .int .i64 y, .slice gp n gc]) (by simp [results, Try.results27, go_sem, e0, e1, e2]) rfl ⟨gp, gc, rfl, ?_, below_put3 (unhide HB) (unhide lz) _ _ _⟩
      obtain ⟨xs, o1, hx1⟩ := unhide hO
      rw [unhide hFn]
      exact ⟨xs, own_low (own_put3 o1 (fun k hk => by have := (o1.lt k hk).1; have := unhide l8; omega) _ _ _) (unhide lW), hx1⟩
end Go.Proofs.Ythelfgippiimiab

/-
  The exact law of LayOver, at the program's own contract.
-/
namespace Go.Proofs.Ythelfgippiimiab
open Go.RowKit
set_option linter.unusedVariables false

theorem fnExactLayOver_walk (x y : Int) (ao : Option Addr) (n ca : Nat) (F : Nat → B4) (x' y' : Int) (bo : Option Addr) (m cb : Nat) (G : Nat → B4) (mode fade : Int) (hx : (Lit.int .i64 x).wf = true) (hy : (Lit.int .i64 y).wf = true) (hx' : (Lit.int .i64 x').wf = true) (hy' : (Lit.int .i64 y').wf = true) (hmo : (Lit.int .i64 mode).wf = true) (hfa : (Lit.int .i64 fade).wf = true) (w : World) (hA : n ≤ maxLen ∧ ∀ i, i < n → ClAt w ao i (F i)) (hB : m ≤ maxLen ∧ ∀ i, i < m → ClAt w bo i (G i)) :
    Calls Try.prog 6 #[.agg #[.int .i64 x, .int .i64 y, .slice ao n ca], .agg #[.int .i64 x', .int .i64 y', .slice bo m cb], .int .i64 mode, .int .i64 fade] w fun r w' => r = .returned (.bool true) ∧ Below w.heap.size w w' :=
  fnExactLayOver_of implLayOver_any x y ao n ca F x' y' bo m cb G mode fade w hA hB
end Go.Proofs.Ythelfgippiimiab

/-
  Flat structs of whole numbers that came in: their cells written out.
-/
namespace Go.Proofs.Ythelfgippiimiab
open Go.ChangeShapes Go.WideShapes

theorem array_2 {α : Type} {cs : Array α} (h : cs.size = 2) : ∃ c0 c1, cs = #[c0, c1] := by
  obtain ⟨l⟩ := cs
  match l, h with
  | [c0, c1], _ => exact ⟨c0, c1, rfl⟩

theorem open_struct2 {H : Type} {enc : TypeId × Value → H} {P : Program} {w : World} {r : Reach} {base b0 : Nat} {sp : Nat → Bool} {held : Bool} {t e : TypeId} {f0 f1 : Field} {v : Value} {d : DataW H} {p : List MemPlace}
    (hs : P.underlying t = some (.struct #[f0, f1])) (hf : [f0, f1].map (fun f => (f.offset, f.type)) = [(0, e), (1, e)]) (he : P.underlying e = some (.int .i64)) (hce : P.cellsOf e = 1) (hC : P.cellsOf t = 2)
    (hv : Value.okWide P w r b0 t v) (h : DataW.Trod enc P w base sp held t v d p) :
    ∃ a0 a1 : Int, v = .agg #[.int .i64 a0, .int .i64 a1] ∧ (Lit.int .i64 a0).wf = true ∧ (Lit.int .i64 a1).wf = true := by
  obtain ⟨cs, rfl, hsz⟩ := okWide_struct hs hv
  obtain ⟨c0, c1, rfl⟩ := array_2 (hsz.trans hC)
  obtain ⟨fuel, hh⟩ := h
  obtain ⟨xs, m, _, _, _, hl, hx⟩ := DataW.trod_struct hs hh
  have hl' : xs.length = 2 := hl
  simp only [List.map_cons, List.map_nil, List.cons.injEq, Prod.mk.injEq, and_true] at hf
  obtain ⟨⟨o0, t0⟩, ⟨o1, t1⟩⟩ := hf
  have g0 := hx 0 f0 rfl
  rw [o0, t0, hce, List.getElem?_eq_getElem (by omega)] at g0
  obtain ⟨z0, e0, _, w0⟩ := DataW.trod_int he g0
  simp [Value.cells] at e0
  have g1 := hx 1 f1 rfl
  rw [o1, t1, hce, List.getElem?_eq_getElem (by omega)] at g1
  obtain ⟨z1, e1, _, w1⟩ := DataW.trod_int he g1
  simp [Value.cells] at e1
  exact ⟨z0, z1, by rw [e0, e1], w0, w1⟩

theorem array_4 {α : Type} {cs : Array α} (h : cs.size = 4) : ∃ c0 c1 c2 c3, cs = #[c0, c1, c2, c3] := by
  obtain ⟨l⟩ := cs
  match l, h with
  | [c0, c1, c2, c3], _ => exact ⟨c0, c1, c2, c3, rfl⟩

theorem open_struct4 {H : Type} {enc : TypeId × Value → H} {P : Program} {w : World} {r : Reach} {base b0 : Nat} {sp : Nat → Bool} {held : Bool} {t e : TypeId} {f0 f1 f2 f3 : Field} {v : Value} {d : DataW H} {p : List MemPlace}
    (hs : P.underlying t = some (.struct #[f0, f1, f2, f3])) (hf : [f0, f1, f2, f3].map (fun f => (f.offset, f.type)) = [(0, e), (1, e), (2, e), (3, e)]) (he : P.underlying e = some (.int .i64)) (hce : P.cellsOf e = 1) (hC : P.cellsOf t = 4)
    (hv : Value.okWide P w r b0 t v) (h : DataW.Trod enc P w base sp held t v d p) :
    ∃ a0 a1 a2 a3 : Int, v = .agg #[.int .i64 a0, .int .i64 a1, .int .i64 a2, .int .i64 a3] ∧ (Lit.int .i64 a0).wf = true ∧ (Lit.int .i64 a1).wf = true ∧ (Lit.int .i64 a2).wf = true ∧ (Lit.int .i64 a3).wf = true := by
  obtain ⟨cs, rfl, hsz⟩ := okWide_struct hs hv
  obtain ⟨c0, c1, c2, c3, rfl⟩ := array_4 (hsz.trans hC)
  obtain ⟨fuel, hh⟩ := h
  obtain ⟨xs, m, _, _, _, hl, hx⟩ := DataW.trod_struct hs hh
  have hl' : xs.length = 4 := hl
  simp only [List.map_cons, List.map_nil, List.cons.injEq, Prod.mk.injEq, and_true] at hf
  obtain ⟨⟨o0, t0⟩, ⟨o1, t1⟩, ⟨o2, t2⟩, ⟨o3, t3⟩⟩ := hf
  have g0 := hx 0 f0 rfl
  rw [o0, t0, hce, List.getElem?_eq_getElem (by omega)] at g0
  obtain ⟨z0, e0, _, w0⟩ := DataW.trod_int he g0
  simp [Value.cells] at e0
  have g1 := hx 1 f1 rfl
  rw [o1, t1, hce, List.getElem?_eq_getElem (by omega)] at g1
  obtain ⟨z1, e1, _, w1⟩ := DataW.trod_int he g1
  simp [Value.cells] at e1
  have g2 := hx 2 f2 rfl
  rw [o2, t2, hce, List.getElem?_eq_getElem (by omega)] at g2
  obtain ⟨z2, e2, _, w2⟩ := DataW.trod_int he g2
  simp [Value.cells] at e2
  have g3 := hx 3 f3 rfl
  rw [o3, t3, hce, List.getElem?_eq_getElem (by omega)] at g3
  obtain ⟨z3, e3, _, w3⟩ := DataW.trod_int he g3
  simp [Value.cells] at e3
  exact ⟨z0, z1, z2, z3, by rw [e0, e1, e2, e3], w0, w1, w2, w3⟩

theorem array_6 {α : Type} {cs : Array α} (h : cs.size = 6) : ∃ c0 c1 c2 c3 c4 c5, cs = #[c0, c1, c2, c3, c4, c5] := by
  obtain ⟨l⟩ := cs
  match l, h with
  | [c0, c1, c2, c3, c4, c5], _ => exact ⟨c0, c1, c2, c3, c4, c5, rfl⟩

theorem open_struct6 {H : Type} {enc : TypeId × Value → H} {P : Program} {w : World} {r : Reach} {base b0 : Nat} {sp : Nat → Bool} {held : Bool} {t e : TypeId} {f0 f1 f2 f3 f4 f5 : Field} {v : Value} {d : DataW H} {p : List MemPlace}
    (hs : P.underlying t = some (.struct #[f0, f1, f2, f3, f4, f5])) (hf : [f0, f1, f2, f3, f4, f5].map (fun f => (f.offset, f.type)) = [(0, e), (1, e), (2, e), (3, e), (4, e), (5, e)]) (he : P.underlying e = some (.int .i64)) (hce : P.cellsOf e = 1) (hC : P.cellsOf t = 6)
    (hv : Value.okWide P w r b0 t v) (h : DataW.Trod enc P w base sp held t v d p) :
    ∃ a0 a1 a2 a3 a4 a5 : Int, v = .agg #[.int .i64 a0, .int .i64 a1, .int .i64 a2, .int .i64 a3, .int .i64 a4, .int .i64 a5] ∧ (Lit.int .i64 a0).wf = true ∧ (Lit.int .i64 a1).wf = true ∧ (Lit.int .i64 a2).wf = true ∧ (Lit.int .i64 a3).wf = true ∧ (Lit.int .i64 a4).wf = true ∧ (Lit.int .i64 a5).wf = true := by
  obtain ⟨cs, rfl, hsz⟩ := okWide_struct hs hv
  obtain ⟨c0, c1, c2, c3, c4, c5, rfl⟩ := array_6 (hsz.trans hC)
  obtain ⟨fuel, hh⟩ := h
  obtain ⟨xs, m, _, _, _, hl, hx⟩ := DataW.trod_struct hs hh
  have hl' : xs.length = 6 := hl
  simp only [List.map_cons, List.map_nil, List.cons.injEq, Prod.mk.injEq, and_true] at hf
  obtain ⟨⟨o0, t0⟩, ⟨o1, t1⟩, ⟨o2, t2⟩, ⟨o3, t3⟩, ⟨o4, t4⟩, ⟨o5, t5⟩⟩ := hf
  have g0 := hx 0 f0 rfl
  rw [o0, t0, hce, List.getElem?_eq_getElem (by omega)] at g0
  obtain ⟨z0, e0, _, w0⟩ := DataW.trod_int he g0
  simp [Value.cells] at e0
  have g1 := hx 1 f1 rfl
  rw [o1, t1, hce, List.getElem?_eq_getElem (by omega)] at g1
  obtain ⟨z1, e1, _, w1⟩ := DataW.trod_int he g1
  simp [Value.cells] at e1
  have g2 := hx 2 f2 rfl
  rw [o2, t2, hce, List.getElem?_eq_getElem (by omega)] at g2
  obtain ⟨z2, e2, _, w2⟩ := DataW.trod_int he g2
  simp [Value.cells] at e2
  have g3 := hx 3 f3 rfl
  rw [o3, t3, hce, List.getElem?_eq_getElem (by omega)] at g3
  obtain ⟨z3, e3, _, w3⟩ := DataW.trod_int he g3
  simp [Value.cells] at e3
  have g4 := hx 4 f4 rfl
  rw [o4, t4, hce, List.getElem?_eq_getElem (by omega)] at g4
  obtain ⟨z4, e4, _, w4⟩ := DataW.trod_int he g4
  simp [Value.cells] at e4
  have g5 := hx 5 f5 rfl
  rw [o5, t5, hce, List.getElem?_eq_getElem (by omega)] at g5
  obtain ⟨z5, e5, _, w5⟩ := DataW.trod_int he g5
  simp [Value.cells] at e5
  exact ⟨z0, z1, z2, z3, z4, z5, by rw [e0, e1, e2, e3, e4, e5], w0, w1, w2, w3, w4, w5⟩
end Go.Proofs.Ythelfgippiimiab

/-
  Lists of points that came in: their cells written out.
-/
namespace Go.Proofs.Ythelfgippiimiab
open Go.ChangeShapes Go.WideShapes Go.RowKit

theorem open_points {H : Type} {enc : TypeId × Value → H} {P : Program} {w : World} {base : Nat} {sp : Nat → Bool} {held : Bool} {t e : TypeId} {f0 f1 : Field} {a : Option Addr} {n c fuel : Nat} {x : DataW H × List MemPlace}
    (ht : P.underlying t = some (.slice e)) (he : P.underlying e = some (.struct #[f0, f1])) (ce : P.cellsOf e = 2) (o0 : f0.offset = 0) (o1 : f1.offset = 1) (c0 : P.cellsOf f0.type = 1) (c1 : P.cellsOf f1.type = 1)
    (k0 : P.underlying f0.type = some (.int .i64)) (k1 : P.underlying f1.type = some (.int .i64))
    (h : DataW.trod enc P w base sp held fuel t [.slice a n c] = some x) :
    ∃ f : Nat → Int × Int, n ≤ maxLen ∧ ∀ i, i < n → PtArg w a i (f i) := by
  rcases Go.Deep.open_slice_pairs ht he ce o0 o1 c0 c1 h with ⟨hcs, _⟩ | ⟨b, len, cap, m, q, V0, V1, D0, D1, P0, P1, hcs, _, hl, hm, hmm, _, hx⟩
  · simp at hcs
    obtain ⟨rfl, rfl, rfl⟩ := hcs
    exact ⟨fun _ => (0, 0), by unfold maxLen; omega, fun i hi => absurd hi (by omega)⟩
  · simp at hcs
    obtain ⟨rfl, rfl, rfl⟩ := hcs
    have hnm : n ≤ m := by rw [hmm]; split <;> omega
    have each : ∀ i, i < n → ∃ p : Int × Int, PtArg w (some b) i p := by
      intro i hi
      obtain ⟨g0, g1, r0, r1⟩ := hx i (by omega)
      obtain ⟨z0, e0, _, _⟩ := DataW.trod_int k0 r0
      obtain ⟨z1, e1, _, _⟩ := DataW.trod_int k1 r1
      simp at e0 e1
      rw [e0] at g0
      rw [e1] at g1
      obtain ⟨bb, off, spot⟩ := b
      have hs := World.cell?_spot (hx 0 (by omega)).1
      have hspot : spot = none := by simpa [Addr.add] using hs
      subst hspot
      refine ⟨(z0, z1), bb, off, rfl, ?_, ?_⟩
      · by_cases hi0 : i = 0
        · subst hi0; simpa [Addr.add] using g0
        · have : i * 2 ≠ 0 := by omega
          rw [Addr.add, if_neg this] at g0; exact g0
      · simpa [Addr.add, Nat.add_assoc] using g1
    obtain ⟨f, hf⟩ := Go.Deep.choose_lt each
    exact ⟨f, by omega, hf⟩
end Go.Proofs.Ythelfgippiimiab

/-
  Paths that came in: their cells written out.
-/
namespace Go.Proofs.Ythelfgippiimiab
open Go.ChangeShapes Go.WideShapes Go.RowKit

theorem spot_none {w : World} {b : Addr} {v : Value} (h : w.cell? (b.add 0) = some v) : b.spot = none := by
  have hs := World.cell?_spot h
  simpa [Addr.add] using hs

theorem open_ilist {H : Type} {enc : TypeId × Value → H} {P : Program} {w : World} {base : Nat} {sp : Nat → Bool} {held : Bool} {t e : TypeId} {c : Value} {fuel : Nat} {x : DataW H × List MemPlace}
    (ht : P.underlying t = some (.slice e)) (he : P.underlying e = some (.int .i64)) (hc : P.cellsOf e = 1) (h : DataW.trod enc P w base sp held fuel t [c] = some x) :
    ∃ (a : Option Addr) (n cap : Nat) (f : Nat → Int), c = .slice a n cap ∧ n ≤ maxLen ∧ ∀ i, i < n → IntAt w a i (f i) := by
  rcases open_ints ht he hc h with ⟨hcs, _⟩ | ⟨b, l, cap, zs, hcs, _, hl, hm, hz, _, hcell, hwz⟩
  · simp at hcs
    exact ⟨none, 0, 0, fun _ => 0, hcs, by unfold maxLen; omega, fun i hi => absurd hi (by omega)⟩
  · simp at hcs
    have hlz : l ≤ zs.length := by rw [hz]; split <;> omega
    refine ⟨some b, l, cap, fun i => zs.getD i 0, hcs, by omega, fun i hi => ?_⟩
    have h0 := spot_none (hcell 0 (by omega))
    obtain ⟨bb, off, spot⟩ := b
    dsimp only at h0
    subst h0
    have hi' := hcell i (by omega)
    have hadd : (⟨bb, off, none⟩ : Addr).add i = ⟨bb, off + i, none⟩ := by unfold Addr.add; split <;> simp_all
    rw [hadd] at hi'
    exact ⟨bb, off, rfl, hi'⟩

theorem open_plist {H : Type} {enc : TypeId × Value → H} {P : Program} {w : World} {base : Nat} {sp : Nat → Bool} {held : Bool} {t e : TypeId} {f0 f1 : Field} {c : Value} {fuel : Nat} {x : DataW H × List MemPlace}
    (ht : P.underlying t = some (.slice e)) (he : P.underlying e = some (.struct #[f0, f1])) (ce : P.cellsOf e = 2) (o0 : f0.offset = 0) (o1 : f1.offset = 1) (c0 : P.cellsOf f0.type = 1) (c1 : P.cellsOf f1.type = 1)
    (k0 : P.underlying f0.type = some (.int .i64)) (k1 : P.underlying f1.type = some (.int .i64))
    (h : DataW.trod enc P w base sp held fuel t [c] = some x) :
    ∃ (a : Option Addr) (n cap : Nat) (f : Nat → Int × Int), c = .slice a n cap ∧ n ≤ maxLen ∧ ∀ i, i < n → PtArg w a i (f i) := by
  rcases Go.Deep.open_slice_pairs ht he ce o0 o1 c0 c1 h with ⟨hcs, _⟩ | ⟨b, len, cap, m, q, V0, V1, D0, D1, P0, P1, hcs, _, hl, hm, hmm, _, hx⟩
  · simp at hcs
    subst hcs
    obtain ⟨f, h1, h2⟩ := open_points ht he ce o0 o1 c0 c1 k0 k1 h
    exact ⟨_, _, _, f, rfl, h1, h2⟩
  · simp at hcs
    subst hcs
    obtain ⟨f, h1, h2⟩ := open_points ht he ce o0 o1 c0 c1 k0 k1 h
    exact ⟨_, _, _, f, rfl, h1, h2⟩

theorem open_path {H : Type} {enc : TypeId × Value → H} {P : Program} {w : World} {r : Reach} {base b0 : Nat} {sp : Nat → Bool} {held : Bool} {t t0 t1 e0 e1 : TypeId} {f0 f1 g0 g1 : Field} {v : Value} {d : DataW H} {p : List MemPlace}
    (hs : P.underlying t = some (.struct #[f0, f1])) (hf : [f0, f1].map (fun f => (f.offset, f.type)) = [(0, t0), (1, t1)]) (hc0 : P.cellsOf t0 = 1) (hc1 : P.cellsOf t1 = 1) (hC : P.cellsOf t = 2)
    (s0 : P.underlying t0 = some (.slice e0)) (s1 : P.underlying t1 = some (.slice e1)) (i0 : P.underlying e0 = some (.int .i64)) (ce0 : P.cellsOf e0 = 1)
    (he : P.underlying e1 = some (.struct #[g0, g1])) (ce : P.cellsOf e1 = 2) (o0 : g0.offset = 0) (o1 : g1.offset = 1) (c0 : P.cellsOf g0.type = 1) (c1 : P.cellsOf g1.type = 1) (k0 : P.underlying g0.type = some (.int .i64)) (k1 : P.underlying g1.type = some (.int .i64))
    (hv : Value.okWide P w r b0 t v) (h : DataW.Trod enc P w base sp held t v d p) :
    ∃ (a : Option Addr) (n c : Nat) (vf : Nat → Int) (b : Option Addr) (m d : Nat) (pf : Nat → Int × Int), v = .agg #[.slice a n c, .slice b m d] ∧ n ≤ maxLen ∧ (∀ i, i < n → IntAt w a i (vf i)) ∧ m ≤ maxLen ∧ ∀ i, i < m → PtArg w b i (pf i) := by
  obtain ⟨cs, rfl, hsz⟩ := okWide_struct hs hv
  obtain ⟨x0, x1, rfl⟩ := array_2 (hsz.trans hC)
  obtain ⟨fuel, hh⟩ := h
  obtain ⟨xs, m', _, _, _, hl, hx⟩ := DataW.trod_struct hs hh
  have hl' : xs.length = 2 := hl
  simp only [List.map_cons, List.map_nil, List.cons.injEq, Prod.mk.injEq, and_true] at hf
  obtain ⟨⟨q0, r0⟩, ⟨q1, r1⟩⟩ := hf
  have y0 := hx 0 f0 rfl
  rw [q0, r0, hc0, List.getElem?_eq_getElem (by omega)] at y0
  have y1 := hx 1 f1 rfl
  rw [q1, r1, hc1, List.getElem?_eq_getElem (by omega)] at y1
  simp [Value.cells] at y0 y1
  obtain ⟨a, n, c, vf, rfl, h1, h2⟩ := open_ilist s0 i0 ce0 y0
  obtain ⟨b, m, d, pf, rfl, h3, h4⟩ := open_plist s1 he ce o0 o1 c0 c1 k0 k1 y1
  exact ⟨a, n, c, vf, b, m, d, pf, rfl, h1, h2, h3, h4⟩
end Go.Proofs.Ythelfgippiimiab

/-
  Masks that came in: their cells written out.
-/
namespace Go.Proofs.Ythelfgippiimiab
open Go.ChangeShapes Go.WideShapes Go.RowKit

theorem array_5 {α : Type} {cs : Array α} (h : cs.size = 5) : ∃ c0 c1 c2 c3 c4, cs = #[c0, c1, c2, c3, c4] := by
  obtain ⟨l⟩ := cs
  match l, h with
  | [c0, c1, c2, c3, c4], _ => exact ⟨c0, c1, c2, c3, c4, rfl⟩

theorem open_box {H : Type} {enc : TypeId × Value → H} {P : Program} {w : World} {base : Nat} {sp : Nat → Bool} {held : Bool} {t e : TypeId} {f0 f1 f2 f3 : Field} {c0 c1 c2 c3 : Value} {fuel : Nat} {x : DataW H × List MemPlace}
    (hs : P.underlying t = some (.struct #[f0, f1, f2, f3])) (hf : [f0, f1, f2, f3].map (fun f => (f.offset, f.type)) = [(0, e), (1, e), (2, e), (3, e)]) (he : P.underlying e = some (.int .i64)) (hce : P.cellsOf e = 1)
    (h : DataW.trod enc P w base sp held fuel t [c0, c1, c2, c3] = some x) :
    ∃ a0 a1 a2 a3 : Int, c0 = .int .i64 a0 ∧ c1 = .int .i64 a1 ∧ c2 = .int .i64 a2 ∧ c3 = .int .i64 a3 ∧ (Lit.int .i64 a0).wf = true ∧ (Lit.int .i64 a1).wf = true ∧ (Lit.int .i64 a2).wf = true ∧ (Lit.int .i64 a3).wf = true := by
  obtain ⟨xs, m, _, _, _, hl, hx⟩ := DataW.trod_struct hs h
  have hl' : xs.length = 4 := hl
  simp only [List.map_cons, List.map_nil, List.cons.injEq, Prod.mk.injEq, and_true] at hf
  obtain ⟨⟨o0, t0⟩, ⟨o1, t1⟩, ⟨o2, t2⟩, ⟨o3, t3⟩⟩ := hf
  have g0 := hx 0 f0 rfl
  rw [o0, t0, hce, List.getElem?_eq_getElem (by omega)] at g0
  obtain ⟨z0, e0, _, w0⟩ := DataW.trod_int he g0
  simp at e0
  have g1 := hx 1 f1 rfl
  rw [o1, t1, hce, List.getElem?_eq_getElem (by omega)] at g1
  obtain ⟨z1, e1, _, w1⟩ := DataW.trod_int he g1
  simp at e1
  have g2 := hx 2 f2 rfl
  rw [o2, t2, hce, List.getElem?_eq_getElem (by omega)] at g2
  obtain ⟨z2, e2, _, w2⟩ := DataW.trod_int he g2
  simp at e2
  have g3 := hx 3 f3 rfl
  rw [o3, t3, hce, List.getElem?_eq_getElem (by omega)] at g3
  obtain ⟨z3, e3, _, w3⟩ := DataW.trod_int he g3
  simp at e3
  exact ⟨z0, z1, z2, z3, e0, e1, e2, e3, w0, w1, w2, w3⟩

theorem open_mask {H : Type} {enc : TypeId × Value → H} {P : Program} {w : World} {r : Reach} {base b0 : Nat} {sp : Nat → Bool} {held : Bool} {t tb ts e e0 : TypeId} {f0 f1 g0 g1 g2 g3 : Field} {v : Value} {d : DataW H} {p : List MemPlace}
    (hs : P.underlying t = some (.struct #[f0, f1])) (hf : [f0, f1].map (fun f => (f.offset, f.type)) = [(0, tb), (4, ts)]) (hc0 : P.cellsOf tb = 4) (hc1 : P.cellsOf ts = 1) (hC : P.cellsOf t = 5)
    (hb : P.underlying tb = some (.struct #[g0, g1, g2, g3])) (hg : [g0, g1, g2, g3].map (fun f => (f.offset, f.type)) = [(0, e), (1, e), (2, e), (3, e)]) (he : P.underlying e = some (.int .i64)) (hce : P.cellsOf e = 1)
    (hl : P.underlying ts = some (.slice e0)) (i0 : P.underlying e0 = some (.int .i64)) (ce0 : P.cellsOf e0 = 1)
    (hv : Value.okWide P w r b0 t v) (h : DataW.Trod enc P w base sp held t v d p) :
    ∃ (x0 y0 x1 y1 : Int) (a : Option Addr) (n c : Nat) (f : Nat → Int), v = .agg #[.int .i64 x0, .int .i64 y0, .int .i64 x1, .int .i64 y1, .slice a n c] ∧ n ≤ maxLen ∧ (∀ i, i < n → IntAt w a i (f i)) ∧ (Lit.int .i64 x0).wf = true ∧ (Lit.int .i64 y0).wf = true ∧ (Lit.int .i64 x1).wf = true ∧ (Lit.int .i64 y1).wf = true := by
  obtain ⟨cs, rfl, hsz⟩ := okWide_struct hs hv
  obtain ⟨c0, c1, c2, c3, c4, rfl⟩ := array_5 (hsz.trans hC)
  obtain ⟨fuel, hh⟩ := h
  obtain ⟨xs, m', _, _, _, hl', hx⟩ := DataW.trod_struct hs hh
  have hl2 : xs.length = 2 := hl'
  simp only [List.map_cons, List.map_nil, List.cons.injEq, Prod.mk.injEq, and_true] at hf
  obtain ⟨⟨q0, r0⟩, ⟨q1, r1⟩⟩ := hf
  have y0 := hx 0 f0 rfl
  rw [q0, r0, hc0, List.getElem?_eq_getElem (by omega)] at y0
  have y1 := hx 1 f1 rfl
  rw [q1, r1, hc1, List.getElem?_eq_getElem (by omega)] at y1
  simp [Value.cells] at y0 y1
  obtain ⟨z0, z1, z2, z3, rfl, rfl, rfl, rfl, w0, w1, w2, w3⟩ := open_box hb hg he hce y0
  obtain ⟨a, n, c, vf, rfl, h1, h2⟩ := open_ilist hl i0 ce0 y1
  exact ⟨z0, z1, z2, z3, a, n, c, vf, rfl, h1, h2, w0, w1, w2, w3⟩
end Go.Proofs.Ythelfgippiimiab

/-
  Surfaces that came in: their cells written out.
-/
namespace Go.Proofs.Ythelfgippiimiab
open Go.ChangeShapes Go.WideShapes Go.RowKit

theorem add_nonec (bb off j : Nat) : (⟨bb, off, none⟩ : Addr).add j = ⟨bb, off + j, none⟩ := by unfold Addr.add; split <;> simp_all

theorem open_cols {H : Type} {enc : TypeId × Value → H} {P : Program} {w : World} {base : Nat} {sp : Nat → Bool} {held : Bool} {t e ei : TypeId} {f0 f1 f2 f3 : Field} {a : Option Addr} {n c fuel : Nat} {x : DataW H × List MemPlace}
    (ht : P.underlying t = some (.slice e)) (he : P.underlying e = some (.struct #[f0, f1, f2, f3])) (hf : [f0, f1, f2, f3].map (fun f => (f.offset, f.type)) = [(0, ei), (1, ei), (2, ei), (3, ei)]) (hei : P.underlying ei = some (.int .i64)) (hce : P.cellsOf ei = 1) (ce : P.cellsOf e = 4)
    (h : DataW.trod enc P w base sp held fuel t [.slice a n c] = some x) :
    ∃ f : Nat → B4, n ≤ maxLen ∧ ∀ i, i < n → ClAt w a i (f i) := by
  rcases Go.Deep.open_slice ht h with ⟨hcs, _⟩ | ⟨b, len, cap, m, q, D, Pl, hcs, _, hl, hm, hmm, _, hx⟩
  · simp at hcs
    obtain ⟨rfl, rfl, rfl⟩ := hcs
    exact ⟨fun _ => ⟨0, 0, 0, 0⟩, by unfold maxLen; omega, fun i hi => absurd hi (by omega)⟩
  · simp at hcs
    obtain ⟨rfl, rfl, rfl⟩ := hcs
    have hnm : n ≤ m := by rw [hmm]; split <;> omega
    have each : ∀ i, i < n → ∃ p : B4, ClAt w (some b) i p := by
      intro i hi
      have hs : b.spot = none := by
        obtain ⟨cs0, h1, _⟩ := hx 0 (by omega)
        rw [ce] at h1
        obtain ⟨_, hlen, hcell⟩ := World.cells?_some h1
        have := World.cell?_spot ((hcell 0 (by omega)).trans (List.getElem?_eq_getElem (by omega)))
        simpa [Addr.add] using this
      obtain ⟨bb, off, spot⟩ := b
      dsimp only at hs
      subst hs
      obtain ⟨cs', h1, h2⟩ := hx i (by omega)
      rw [ce, add_nonec] at h1
      obtain ⟨_, hlen, hcell⟩ := World.cells?_some h1
      match cs', hlen, hcell, h2 with
      | [v0, v1, v2, v3], _, hcell, h2 =>
        obtain ⟨z0, z1, z2, z3, rfl, rfl, rfl, rfl, _⟩ := open_box he hf hei hce h2
        have e0 := hcell 0 (by simp)
        have e1 := hcell 1 (by simp)
        have e2 := hcell 2 (by simp)
        have e3 := hcell 3 (by simp)
        rw [add_nonec] at e0 e1 e2 e3
        exact ⟨⟨z0, z1, z2, z3⟩, bb, off, rfl, by simpa using e0, by simpa using e1, by simpa using e2, by simpa using e3⟩
    haveI : Inhabited B4 := ⟨⟨0, 0, 0, 0⟩⟩
    obtain ⟨f, hf⟩ := Go.Deep.choose_lt each
    exact ⟨f, by omega, hf⟩

theorem array_3s {α : Type} {cs : Array α} (h : cs.size = 3) : ∃ c0 c1 c2, cs = #[c0, c1, c2] := by
  obtain ⟨l⟩ := cs
  match l, h with
  | [c0, c1, c2], _ => exact ⟨c0, c1, c2, rfl⟩

theorem open_surface {H : Type} {enc : TypeId × Value → H} {P : Program} {w : World} {r : Reach} {base b0 : Nat} {sp : Nat → Bool} {held : Bool} {t ts e ec : TypeId} {f0 f1 f2 g0 g1 g2 g3 : Field} {v : Value} {d : DataW H} {p : List MemPlace}
    (hs : P.underlying t = some (.struct #[f0, f1, f2])) (hf : [f0, f1, f2].map (fun f => (f.offset, f.type)) = [(0, e), (1, e), (2, ts)]) (hce : P.cellsOf e = 1) (hc1 : P.cellsOf ts = 1) (hC : P.cellsOf t = 3)
    (he : P.underlying e = some (.int .i64)) (hl : P.underlying ts = some (.slice ec))
    (hb : P.underlying ec = some (.struct #[g0, g1, g2, g3])) (hg : [g0, g1, g2, g3].map (fun f => (f.offset, f.type)) = [(0, e), (1, e), (2, e), (3, e)]) (hcc : P.cellsOf ec = 4)
    (hv : Value.okWide P w r b0 t v) (h : DataW.Trod enc P w base sp held t v d p) :
    ∃ (x y : Int) (a : Option Addr) (n c : Nat) (f : Nat → B4), v = .agg #[.int .i64 x, .int .i64 y, .slice a n c] ∧ n ≤ maxLen ∧ (∀ i, i < n → ClAt w a i (f i)) ∧ (Lit.int .i64 x).wf = true ∧ (Lit.int .i64 y).wf = true := by
  obtain ⟨cs, rfl, hsz⟩ := okWide_struct hs hv
  obtain ⟨c0, c1, c2, rfl⟩ := array_3s (hsz.trans hC)
  obtain ⟨fuel, hh⟩ := h
  obtain ⟨xs, m', _, _, _, hl', hx⟩ := DataW.trod_struct hs hh
  have hl2 : xs.length = 3 := hl'
  simp only [List.map_cons, List.map_nil, List.cons.injEq, Prod.mk.injEq, and_true] at hf
  obtain ⟨⟨q0, r0⟩, ⟨q1, r1⟩, ⟨q2, r2⟩⟩ := hf
  have y0 := hx 0 f0 rfl
  rw [q0, r0, hce, List.getElem?_eq_getElem (by omega)] at y0
  have y1 := hx 1 f1 rfl
  rw [q1, r1, hce, List.getElem?_eq_getElem (by omega)] at y1
  have y2 := hx 2 f2 rfl
  rw [q2, r2, hc1, List.getElem?_eq_getElem (by omega)] at y2
  simp [Value.cells] at y0 y1 y2
  obtain ⟨z0, e0, _, w0⟩ := DataW.trod_int he y0
  obtain ⟨z1, e1, _, w1⟩ := DataW.trod_int he y1
  simp at e0 e1
  subst e0 e1
  rcases Go.Deep.open_slice hl y2 with ⟨hcs, _⟩ | ⟨b, len, cap, m, q, D, Pl, hcs, _⟩
  · simp at hcs
    subst hcs
    obtain ⟨f, hm, H⟩ := open_cols hl hb hg he hce hcc y2
    exact ⟨z0, z1, _, _, _, f, rfl, hm, H, w0, w1⟩
  · simp at hcs
    subst hcs
    obtain ⟨f, hm, H⟩ := open_cols hl hb hg he hce hcc y2
    exact ⟨z0, z1, _, _, _, f, rfl, hm, H, w0, w1⟩
end Go.Proofs.Ythelfgippiimiab
