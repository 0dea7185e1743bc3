/-
  The law of MovePath (made by movelaw.py).
-/
import Derived.Test.YtmonjackmhijcaaPathV
import Derived.Test.YtmonjackmhijcaaMoveI
import Derived.Deep.RegionHeld3
import Derived.Deep.DeepCutAuto
import Derived.Deep.DeepFit
namespace Go.Proofs.Ytmonjackmhijcaa
open Go.RowKit
set_option linter.unusedVariables false

set_option maxHeartbeats 16000000 in
set_option maxRecDepth 100000 in
theorem fnExactMovePath_walk (A B C D E F : Int) (a : Option Addr) (n c : Nat) (vf : Nat → Int) (b : Option Addr) (m d : Nat) (pf : Nat → Int × Int) (_ : (Lit.int .i64 A).wf = true) (_ : (Lit.int .i64 B).wf = true) (_ : (Lit.int .i64 C).wf = true) (_ : (Lit.int .i64 D).wf = true) (_ : (Lit.int .i64 E).wf = true) (_ : (Lit.int .i64 F).wf = true) (w : World)
    (hw : n ≤ maxLen ∧ (∀ i, i < n → IntAt w a i (vf i)) ∧ m ≤ maxLen ∧ ∀ i, i < m → PtArg w b i (pf i)) :
    Calls Try.prog 5 #[.agg #[.int .i64 A, .int .i64 B, .int .i64 C, .int .i64 D, .int .i64 E, .int .i64 F], .agg #[.slice a n c, .slice b m d]] w fun r w' => r = .returned (.bool true) ∧ Below w.heap.size w w' := by
  obtain ⟨hn0, V, hm0, P⟩ := hw
  have Z := hide (szPath_any a b n c m d hn0 hm0)
  by_cases hbig : 1048576 < n + m
  · rw [if_pos hbig] at Z
    go_enter Try.func5, Try.ntmps5
    go_wp2_with fail
    go_fit (unhide Z _)
    rintro r w1 ⟨rfl, hb⟩
    go_wp2_with fail
    go_ret
    exact ⟨rfl, below_two (al2_below _ _ _) hb⟩
  · rw [if_neg hbig] at Z
    have hpos : ¬ ((1048576 : Int) - ((n : Int) + (m : Int)) < 0) := by omega
    have hn : n ≤ 1048576 := by omega
    have hm : m ≤ 1048576 := by omega
    obtain ⟨x, hx⟩ : ∃ x : Bool, (x = true ↔ Right vf n pf m) := by
      by_cases h : Right vf n pf m
      · exact ⟨true, by simp [h]⟩
      · exact ⟨false, by simp [h]⟩
    have TM := hide (toMat_any A B C D E F)
    have TP := hide (fun u (hu : Below w.heap.size w u) => toPath_v vf pf a b n c m d hn hm u (fun i hi => (V i hi).next hu) (fun i hi => (P i hi).next hu))
    have S := hide (fun (u : World) (s t c' d' base : Nat) (hv : PathV u base (.slice (some ⟨s, 0, none⟩) n c') (.slice (some ⟨t, 0, none⟩) m d') n m vf pf) => specMovePath_any A B C D E F vf pf s 0 (some ⟨t, 0, none⟩) n c' m d' hn hm u x hx hv.ints hv.pts)
    have I := hide (fun (u : World) (s t c' d' base : Nat) (hv : PathV u base (.slice (some ⟨s, 0, none⟩) n c') (.slice (some ⟨t, 0, none⟩) m d') n m vf pf) => implMovePath_any A B C D E F vf pf s 0 (some ⟨t, 0, none⟩) n c' m d' hn hm u x hx hv.ints hv.pts)
    have hN : okN (x && matOkB A B C D E F) n ≤ 1048576 := by unfold okN; cases (x && matOkB A B C D E F) <;> simp <;> omega
    have hM : okN (x && matOkB A B C D E F) m ≤ 1048576 := by unfold okN; cases (x && matOkB A B C D E F) <;> simp <;> omega
    have EX := hide (fun (b0 b1 c d c' d' : Nat) (a b a' b' : Option Addr) (w : World) h0 h1 => @eqPath_v b0 b1 n m c d c' d' a b a' b' vf pf hn hm w h0 h1)
    have MX := hide (fun (v1 v2 : Value) (base : Nat) (w : World) h => @markPath_v v1 v2 base n m vf pf hn hm w h)
    generalize okN (x && matOkB A B C D E F) n = N at S I hN
    generalize okN (x && matOkB A B C D E F) m = M at S I hM
    generalize (fun i => mvP A B C D E F (pf i)) = mf at S I
    have EP := hide (fun (b0 b1 c d c' d' : Nat) (a b a' b' : Option Addr) (w : World) h0 h1 => @eqPath_v b0 b1 N M c d c' d' a b a' b' vf mf hN hM w h0 h1)
    have MP := hide (fun (v1 v2 : Value) (base : Nat) (w : World) h => @markPath_v v1 v2 base N M vf mf hN hM w h)
    have HP := hide (fun (v1 v2 : Value) (base : Nat) (w : World) h => @heldPath_v v1 v2 base N M hN hM w h)
    have hq : ¬ (((1 + N + M * 2 : Nat) : Int) < 0) := by omega
    have hp : ¬ (((1 + n + m * 2 : Nat) : Int) < 0) := by omega
    generalize ((1 + N + M * 2 : Nat) : Int) = q at MP HP hq
    generalize ((1 + n + m * 2 : Nat) : Int) = p at MX hp
    clear hn hm hN hM hx V P hn0 hm0 hbig
    go_enter Try.func5, Try.ntmps5
    go_wp2_with fail
    have HB := hide (Below.refl w.heap.size w)
    obtain ⟨W0, hW⟩ : ∃ W, W = (w.alloc (.cells #[.int .i64 A, .int .i64 B, .int .i64 C, .int .i64 D, .int .i64 E, .int .i64 F] 53)).alloc (.cells #[.slice a n c, .slice b m d] 48) := ⟨_, rfl⟩
    replace HB := hide (show Below w.heap.size w W0 by rw [hW]; exact al2_below _ _ _)
    have RM := hide (show W0.heap[w.heap.size]? = some (.cells #[.int .i64 A, .int .i64 B, .int .i64 C, .int .i64 D, .int .i64 E, .int .i64 F] 53 (0, 0)) by rw [hW]; exact al2_0 _ _ _)
    have RP := hide (show W0.heap[w.heap.size + 1]? = some (.cells #[.slice a n c, .slice b m d] 48 (0, 0)) by rw [hW]; exact al2_1 _ _ _)
    rw [← hW]
    clear hW
    go_fit (unhide Z _)
    rintro r w1 ⟨rfl, hb⟩
    replace RM := hide (row_next hb (unhide RM))
    replace RP := hide (row_next hb (unhide RP))
    replace HB := hide (below_two (unhide HB) hb)
    clear hb
    clear Z
    go_wp2_with fail
    have k0 := hide (show ∀ u, Below w1.heap.size w1 u → (u.cell? ⟨w.heap.size, 0, none⟩ = some (.int .i64 A) ∧ u.cell? ⟨w.heap.size, 1, none⟩ = some (.int .i64 B) ∧ u.cell? ⟨w.heap.size, 2, none⟩ = some (.int .i64 C) ∧ u.cell? ⟨w.heap.size, 3, none⟩ = some (.int .i64 D) ∧ u.cell? ⟨w.heap.size, 4, none⟩ = some (.int .i64 E) ∧ u.cell? ⟨w.heap.size, 5, none⟩ = some (.int .i64 F) ∧ u.cell? ⟨w.heap.size + 1, 0, none⟩ = some (.slice a n c) ∧ u.cell? ⟨w.heap.size + 1, 1, none⟩ = some (.slice b m d) ∧ Below w1.heap.size w1 u) from fun u h => ⟨(row6 (row_next h (unhide RM))).1, (row6 (row_next h (unhide RM))).2.1, (row6 (row_next h (unhide RM))).2.2.1, (row6 (row_next h (unhide RM))).2.2.2.1, (row6 (row_next h (unhide RM))).2.2.2.2.1, (row6 (row_next h (unhide RM))).2.2.2.2.2, (row2 (row_next h (unhide RP))).1, (row2 (row_next h (unhide RP))).2, h⟩)
    have kS := hide (show ∀ u, (u.cell? ⟨w.heap.size, 0, none⟩ = some (.int .i64 A) ∧ u.cell? ⟨w.heap.size, 1, none⟩ = some (.int .i64 B) ∧ u.cell? ⟨w.heap.size, 2, none⟩ = some (.int .i64 C) ∧ u.cell? ⟨w.heap.size, 3, none⟩ = some (.int .i64 D) ∧ u.cell? ⟨w.heap.size, 4, none⟩ = some (.int .i64 E) ∧ u.cell? ⟨w.heap.size, 5, none⟩ = some (.int .i64 F) ∧ u.cell? ⟨w.heap.size + 1, 0, none⟩ = some (.slice a n c) ∧ u.cell? ⟨w.heap.size + 1, 1, none⟩ = some (.slice b m d) ∧ Below w1.heap.size w1 u) → Below w1.heap.size w1 u from fun u h => h.2.2.2.2.2.2.2.2)
    have k00 := hide (unhide k0 _ (Below.refl _ _).drew)
    have hd : w1.drew.heap.size = w1.heap.size := rfl
    go_cut [6] (fun s u => ∃ q a c b d, s = .pointer (some ⟨q, 0, none⟩) ∧ u.heap[q]? = some (.cells #[.slice a N c, .slice b M d] 33 (0, 0)) ∧ PathV u w1.heap.size (.slice a N c) (.slice b M d) N M vf mf ∧ NotOf q (.slice a N c) (.slice b M d) ∧ w1.heap.size ≤ q ∧ Below w1.heap.size w1 u)
    case first =>
      go_region_held3 (fun u => u.cell? ⟨w.heap.size, 0, none⟩ = some (.int .i64 A) ∧ u.cell? ⟨w.heap.size, 1, none⟩ = some (.int .i64 B) ∧ u.cell? ⟨w.heap.size, 2, none⟩ = some (.int .i64 C) ∧ u.cell? ⟨w.heap.size, 3, none⟩ = some (.int .i64 D) ∧ u.cell? ⟨w.heap.size, 4, none⟩ = some (.int .i64 E) ∧ u.cell? ⟨w.heap.size, 5, none⟩ = some (.int .i64 F) ∧ u.cell? ⟨w.heap.size + 1, 0, none⟩ = some (.slice a n c) ∧ u.cell? ⟨w.heap.size + 1, 1, none⟩ = some (.slice b m d) ∧ Below w1.heap.size w1 u) ((first | with_reducible exact unhide k00 | (refine unhide k0 _ ?_; first | with_reducible assumption | (with_reducible refine below_new _ ?_ (Nat.le_refl _); with_reducible assumption) | (with_reducible refine Below.drew ?_; with_reducible exact below_new _ (Below.refl _ _) (Nat.le_refl _)) | (with_reducible refine below_put2 ?_ ?_ _ _ <;> first | with_reducible assumption | omega)))) (first | (go_at_call 23; go_fit (unhide TM _); rintro r y1 ⟨rfl, hb1⟩; have hW1 := below_after hb1 (unhide kS _ (by with_reducible assumption)) (Nat.le_refl _); have hsz := hb1.size; have hge := hW1.size; (first | (have zz := carry2 (.slice none 0 0) (.slice none 0 0) 33 hb1 (by with_reducible assumption); obtain ⟨z0, z1, v0, v1, hz, hzl⟩ := zz) | (have zz := carry2 (.slice none 0 0) (.slice none 0 0) 33 hb1 (al1_0 _ _); obtain ⟨z0, z1, v0, v1, hz, hzl⟩ := zz; try simp only [hd] at z0 z1 v0 v1 hz hzl) | skip); (first | (replace pv := hide ((unhide pv).next hb1)) | (replace pv := hide (((unhide pv).next (al1_below _ _)).next hb1)) | skip)) | (go_at_call 20; go_fit (unhide TP _ (below_two (unhide HB) (unhide kS _ (by with_reducible assumption)))); rintro r y1 ⟨s1, t1, rfl, hpv, hb1⟩; have hW1 := below_after hb1 (unhide kS _ (by with_reducible assumption)) (Nat.le_refl _); have hsz := hb1.size; have hge := hW1.size; (first | (have zz := carry2 (.slice none 0 0) (.slice none 0 0) 33 hb1 (by with_reducible assumption); obtain ⟨z0, z1, v0, v1, hz, hzl⟩ := zz) | (have zz := carry2 (.slice none 0 0) (.slice none 0 0) 33 hb1 (al1_0 _ _); obtain ⟨z0, z1, v0, v1, hz, hzl⟩ := zz; try simp only [hd] at z0 z1 v0 v1 hz hzl) | skip); have pv := hide hpv; clear hpv) | (go_at_call 22; (first | go_fit (unhide S _ _ _ _ _ _ (unhide pv)) | go_fit (unhide S _ _ _ _ _ _ ((unhide pv).next (al1_below _ _)))); intro r y1 hres; obtain ⟨a1, c1, b1, d1, rfl, hp1, hb1⟩ := PathRes.open hres; clear hres; have pr := hide (hp1.low (Below.size (unhide kS _ (by with_reducible assumption)))); (first | (have nq := hide (hp1.notOld (heap_lt (by with_reducible assumption))); skip) | (have nq := hide (hp1.notOld (new_lt _ _)); try simp only [hd] at nq) | skip); have hW1 := below_after hb1 (unhide kS _ (by with_reducible assumption)) (Nat.le_refl _); have hsz := hb1.size; have hge := hW1.size; (first | (have zz := carry2 (.slice none 0 0) (.slice none 0 0) 33 hb1 (by with_reducible assumption); obtain ⟨z0, z1, v0, v1, hz, hzl⟩ := zz) | (have zz := carry2 (.slice none 0 0) (.slice none 0 0) 33 hb1 (al1_0 _ _); obtain ⟨z0, z1, v0, v1, hz, hzl⟩ := zz; try simp only [hd] at z0 z1 v0 v1 hz hzl) | skip); skip; clear hp1))
      all_goals
        go_wp2_with fail
        go_meet
        first
        | exact ⟨_, _, _, _, _, rfl, new_row _ _, (unhide pr).next (al1_below _ _), (unhide pr).notNew (Nat.le_refl _), hW1.size, unhide kS _ (by with_reducible assumption)⟩
        | exact ⟨_, _, _, _, _, rfl, put2_row hz, (unhide pr).put (unhide nq), unhide nq, (by first | with_reducible exact Nat.le_refl _ | omega), unhide kS _ (by with_reducible assumption)⟩
    case rest =>
      obtain ⟨q_R0, a50, c50, b50, d50, rfl, hr, hp, hnot, hge, hb⟩ := hcut
      have nq_R0_p0 := hide hnot
      clear hge hnot
      replace hr := hide hr
      have k_RM_p0 := hide (fun u u' (ho : Only u u' (.slice a50 N c50) (.slice b50 M d50)) (base) (hb : base = w1.heap.size) (hv : PathV u base (.slice a50 N c50) (.slice b50 M d50) N M vf mf) (hr : u.heap[w.heap.size]? = some (.cells #[.int .i64 A, .int .i64 B, .int .i64 C, .int .i64 D, .int .i64 E, .int .i64 F] 53 (0, 0))) => ho.old hv hr (by rw [hb]; exact heap_lt (unhide RM)))
      have k_RP_p0 := hide (fun u u' (ho : Only u u' (.slice a50 N c50) (.slice b50 M d50)) (base) (hb : base = w1.heap.size) (hv : PathV u base (.slice a50 N c50) (.slice b50 M d50) N M vf mf) (hr : u.heap[w.heap.size + 1]? = some (.cells #[.slice a n c, .slice b m d] 48 (0, 0))) => ho.old hv hr (by rw [hb]; exact heap_lt (unhide RP)))
      have p0 := hide hp
      clear hp
      have lb_p0 := hide (show w.heap.size ≤ w1.heap.size from (unhide HB).size)
      replace RM := hide (row_next hb (unhide RM))
      replace RP := hide (row_next hb (unhide RP))
      replace HB := hide (below_two (unhide HB) hb)
      clear hb
      have R0 := hr
      clear hr
      clear k0 kS k00 hd
      generalize wc = X50 at *
      obtain ⟨q_RP_0, q_RP_1⟩ := row2 (unhide RP)
      go_wp2_with fail
      clear q_RP_0 q_RP_1
      go_fit (unhide TP _ (unhide HB))
      rintro r w2 ⟨s60, t60, rfl, hp, hb⟩
      have k_RM_p1 := hide (fun u u' (ho : Only u u' (.slice (some ⟨s60, 0, none⟩) n n) (.slice (some ⟨t60, 0, none⟩) m m)) (base) (hb : base = X50.heap.size) (hv : PathV u base (.slice (some ⟨s60, 0, none⟩) n n) (.slice (some ⟨t60, 0, none⟩) m m) n m vf pf) (hr : u.heap[w.heap.size]? = some (.cells #[.int .i64 A, .int .i64 B, .int .i64 C, .int .i64 D, .int .i64 E, .int .i64 F] 53 (0, 0))) => ho.old hv hr (by rw [hb]; exact heap_lt (unhide RM)))
      have k_RP_p1 := hide (fun u u' (ho : Only u u' (.slice (some ⟨s60, 0, none⟩) n n) (.slice (some ⟨t60, 0, none⟩) m m)) (base) (hb : base = X50.heap.size) (hv : PathV u base (.slice (some ⟨s60, 0, none⟩) n n) (.slice (some ⟨t60, 0, none⟩) m m) n m vf pf) (hr : u.heap[w.heap.size + 1]? = some (.cells #[.slice a n c, .slice b m d] 48 (0, 0))) => ho.old hv hr (by rw [hb]; exact heap_lt (unhide RP)))
      have k_R0_p1 := hide (fun u u' (ho : Only u u' (.slice (some ⟨s60, 0, none⟩) n n) (.slice (some ⟨t60, 0, none⟩) m m)) (base) (hb : base = X50.heap.size) (hv : PathV u base (.slice (some ⟨s60, 0, none⟩) n n) (.slice (some ⟨t60, 0, none⟩) m m) n m vf pf) (hr : u.heap[q_R0]? = some (.cells #[.slice a50 N c50, .slice b50 M d50] 33 (0, 0))) => ho.old hv hr (by rw [hb]; exact heap_lt (unhide R0)))
      have ap_p0_p1 := hide ((unhide p0).far hp (Nat.le_refl _))
      have p1 := hide hp
      clear hp
      have lb_p1 := hide (show w.heap.size ≤ X50.heap.size from (unhide HB).size)
      replace RM := hide (row_next hb (unhide RM))
      replace RP := hide (row_next hb (unhide RP))
      replace R0 := hide (row_next hb (unhide R0))
      replace p0 := hide ((unhide p0).next hb)
      replace HB := hide (below_two (unhide HB) hb)
      clear hb
      go_wp2_with fail
      have old_p1 := p1
      obtain ⟨W3, hW⟩ : ∃ W, W = w2.alloc (.cells #[.slice (some ⟨s60, 0, none⟩) n n, .slice (some ⟨t60, 0, none⟩) m m] 33) := ⟨_, rfl⟩
      have hn := hide (show Below w2.heap.size w2 W3 by rw [hW]; exact below_new _ (Below.refl _ _) (Nat.le_refl _))
      have R1 := hide (show W3.heap[w2.heap.size]? = some (.cells #[.slice (some ⟨s60, 0, none⟩) n n, .slice (some ⟨t60, 0, none⟩) m m] 33 (0, 0)) by rw [hW]; exact new_row _ _)
      rw [← hW]
      clear hW
      replace RM := hide (row_next (unhide hn) (unhide RM))
      replace RP := hide (row_next (unhide hn) (unhide RP))
      replace R0 := hide (row_next (unhide hn) (unhide R0))
      replace p0 := hide ((unhide p0).next (unhide hn))
      replace p1 := hide ((unhide p1).next (unhide hn))
      replace HB := hide (below_two (unhide HB) (unhide hn))
      clear hn
      have ge_R1_p1 := hide (show w2.heap.size ≤ w2.heap.size from Nat.le_refl _)
      have k0 := hide (show ∀ u, Below W3.heap.size W3 u → (u.cell? ⟨w.heap.size, 0, none⟩ = some (.int .i64 A) ∧ u.cell? ⟨w.heap.size, 1, none⟩ = some (.int .i64 B) ∧ u.cell? ⟨w.heap.size, 2, none⟩ = some (.int .i64 C) ∧ u.cell? ⟨w.heap.size, 3, none⟩ = some (.int .i64 D) ∧ u.cell? ⟨w.heap.size, 4, none⟩ = some (.int .i64 E) ∧ u.cell? ⟨w.heap.size, 5, none⟩ = some (.int .i64 F) ∧ u.cell? ⟨w2.heap.size, 0, none⟩ = some (.slice (some ⟨s60, 0, none⟩) n n) ∧ u.cell? ⟨w2.heap.size, 1, none⟩ = some (.slice (some ⟨t60, 0, none⟩) m m) ∧ Below W3.heap.size W3 u) from fun u h => ⟨(row6 (row_next h (unhide RM))).1, (row6 (row_next h (unhide RM))).2.1, (row6 (row_next h (unhide RM))).2.2.1, (row6 (row_next h (unhide RM))).2.2.2.1, (row6 (row_next h (unhide RM))).2.2.2.2.1, (row6 (row_next h (unhide RM))).2.2.2.2.2, (row2 (row_next h (unhide R1))).1, (row2 (row_next h (unhide R1))).2, h⟩)
      have kS := hide (show ∀ u, (u.cell? ⟨w.heap.size, 0, none⟩ = some (.int .i64 A) ∧ u.cell? ⟨w.heap.size, 1, none⟩ = some (.int .i64 B) ∧ u.cell? ⟨w.heap.size, 2, none⟩ = some (.int .i64 C) ∧ u.cell? ⟨w.heap.size, 3, none⟩ = some (.int .i64 D) ∧ u.cell? ⟨w.heap.size, 4, none⟩ = some (.int .i64 E) ∧ u.cell? ⟨w.heap.size, 5, none⟩ = some (.int .i64 F) ∧ u.cell? ⟨w2.heap.size, 0, none⟩ = some (.slice (some ⟨s60, 0, none⟩) n n) ∧ u.cell? ⟨w2.heap.size, 1, none⟩ = some (.slice (some ⟨t60, 0, none⟩) m m) ∧ Below W3.heap.size W3 u) → Below W3.heap.size W3 u from fun u h => h.2.2.2.2.2.2.2.2)
      have k00 := hide (unhide k0 _ (Below.refl _ _).drew)
      have hd : W3.drew.heap.size = W3.heap.size := rfl
      go_cut [8] (fun s u => ∃ q a c b d, s = .pointer (some ⟨q, 0, none⟩) ∧ u.heap[q]? = some (.cells #[.slice a N c, .slice b M d] 33 (0, 0)) ∧ PathV u W3.heap.size (.slice a N c) (.slice b M d) N M vf mf ∧ NotOf q (.slice a N c) (.slice b M d) ∧ W3.heap.size ≤ q ∧ Below W3.heap.size W3 u)
      case first =>
        go_region_held3 (fun u => u.cell? ⟨w.heap.size, 0, none⟩ = some (.int .i64 A) ∧ u.cell? ⟨w.heap.size, 1, none⟩ = some (.int .i64 B) ∧ u.cell? ⟨w.heap.size, 2, none⟩ = some (.int .i64 C) ∧ u.cell? ⟨w.heap.size, 3, none⟩ = some (.int .i64 D) ∧ u.cell? ⟨w.heap.size, 4, none⟩ = some (.int .i64 E) ∧ u.cell? ⟨w.heap.size, 5, none⟩ = some (.int .i64 F) ∧ u.cell? ⟨w2.heap.size, 0, none⟩ = some (.slice (some ⟨s60, 0, none⟩) n n) ∧ u.cell? ⟨w2.heap.size, 1, none⟩ = some (.slice (some ⟨t60, 0, none⟩) m m) ∧ Below W3.heap.size W3 u) ((first | with_reducible exact unhide k00 | (refine unhide k0 _ ?_; first | with_reducible assumption | (with_reducible refine below_new _ ?_ (Nat.le_refl _); with_reducible assumption) | (with_reducible refine Below.drew ?_; with_reducible exact below_new _ (Below.refl _ _) (Nat.le_refl _)) | (with_reducible refine below_put2 ?_ ?_ _ _ <;> first | with_reducible assumption | omega)))) (first | (go_at_call 23; go_fit (unhide TM _); rintro r y1 ⟨rfl, hb1⟩; have hW1 := below_after hb1 (unhide kS _ (by with_reducible assumption)) (Nat.le_refl _); have hsz := hb1.size; have hge := hW1.size; (first | (have zz := carry2 (.slice none 0 0) (.slice none 0 0) 33 hb1 (by with_reducible assumption); obtain ⟨z0, z1, v0, v1, hz, hzl⟩ := zz) | (have zz := carry2 (.slice none 0 0) (.slice none 0 0) 33 hb1 (al1_0 _ _); obtain ⟨z0, z1, v0, v1, hz, hzl⟩ := zz; try simp only [hd] at z0 z1 v0 v1 hz hzl) | skip); (first | (replace pv := hide ((unhide pv).next hb1)) | (replace pv := hide (((unhide pv).next (al1_below _ _)).next hb1)) | skip)) | (go_at_call 10; (first | go_fit (unhide I _ _ _ _ _ _ ((unhide p1).next (unhide kS _ (by with_reducible assumption))))); intro r y1 hres; obtain ⟨a1, c1, b1, d1, rfl, hp1, hb1⟩ := PathRes.open hres; clear hres; have pr := hide (hp1.low (Below.size (unhide kS _ (by with_reducible assumption)))); (first | (have nq := hide (hp1.notOld (heap_lt (by with_reducible assumption))); skip) | (have nq := hide (hp1.notOld (new_lt _ _)); try simp only [hd] at nq) | skip); have hW1 := below_after hb1 (unhide kS _ (by with_reducible assumption)) (Nat.le_refl _); have hsz := hb1.size; have hge := hW1.size; (first | (have zz := carry2 (.slice none 0 0) (.slice none 0 0) 33 hb1 (by with_reducible assumption); obtain ⟨z0, z1, v0, v1, hz, hzl⟩ := zz) | (have zz := carry2 (.slice none 0 0) (.slice none 0 0) 33 hb1 (al1_0 _ _); obtain ⟨z0, z1, v0, v1, hz, hzl⟩ := zz; try simp only [hd] at z0 z1 v0 v1 hz hzl) | skip); skip; clear hp1))
        all_goals
          go_wp2_with fail
          go_meet
          first
          | exact ⟨_, _, _, _, _, rfl, new_row _ _, (unhide pr).next (al1_below _ _), (unhide pr).notNew (Nat.le_refl _), hW1.size, unhide kS _ (by with_reducible assumption)⟩
          | exact ⟨_, _, _, _, _, rfl, put2_row hz, (unhide pr).put (unhide nq), unhide nq, (by first | with_reducible exact Nat.le_refl _ | omega), unhide kS _ (by with_reducible assumption)⟩
      case rest =>
        obtain ⟨q_R2, a70, c70, b70, d70, rfl, hr, hp, hnot, hge, hb⟩ := hcut
        have nq_R2_p0 := hide ((unhide p0).notNew hge)
        have nq_R2_p1 := hide ((unhide p1).notNew hge)
        have nq_R2_p2 := hide hnot
        clear hge hnot
        replace hr := hide hr
        have k_RM_p2 := hide (fun u u' (ho : Only u u' (.slice a70 N c70) (.slice b70 M d70)) (base) (hb : base = W3.heap.size) (hv : PathV u base (.slice a70 N c70) (.slice b70 M d70) N M vf mf) (hr : u.heap[w.heap.size]? = some (.cells #[.int .i64 A, .int .i64 B, .int .i64 C, .int .i64 D, .int .i64 E, .int .i64 F] 53 (0, 0))) => ho.old hv hr (by rw [hb]; exact heap_lt (unhide RM)))
        have k_RP_p2 := hide (fun u u' (ho : Only u u' (.slice a70 N c70) (.slice b70 M d70)) (base) (hb : base = W3.heap.size) (hv : PathV u base (.slice a70 N c70) (.slice b70 M d70) N M vf mf) (hr : u.heap[w.heap.size + 1]? = some (.cells #[.slice a n c, .slice b m d] 48 (0, 0))) => ho.old hv hr (by rw [hb]; exact heap_lt (unhide RP)))
        have k_R0_p2 := hide (fun u u' (ho : Only u u' (.slice a70 N c70) (.slice b70 M d70)) (base) (hb : base = W3.heap.size) (hv : PathV u base (.slice a70 N c70) (.slice b70 M d70) N M vf mf) (hr : u.heap[q_R0]? = some (.cells #[.slice a50 N c50, .slice b50 M d50] 33 (0, 0))) => ho.old hv hr (by rw [hb]; exact heap_lt (unhide R0)))
        have k_R1_p2 := hide (fun u u' (ho : Only u u' (.slice a70 N c70) (.slice b70 M d70)) (base) (hb : base = W3.heap.size) (hv : PathV u base (.slice a70 N c70) (.slice b70 M d70) N M vf mf) (hr : u.heap[w2.heap.size]? = some (.cells #[.slice (some ⟨s60, 0, none⟩) n n, .slice (some ⟨t60, 0, none⟩) m m] 33 (0, 0))) => ho.old hv hr (by rw [hb]; exact heap_lt (unhide R1)))
        have ap_p0_p2 := hide ((unhide p0).far hp (Nat.le_refl _))
        have ap_p1_p2 := hide ((unhide p1).far hp (Nat.le_refl _))
        have p2 := hide hp
        clear hp
        have lb_p2 := hide (show w.heap.size ≤ W3.heap.size from (unhide HB).size)
        replace RM := hide (row_next hb (unhide RM))
        replace RP := hide (row_next hb (unhide RP))
        replace R0 := hide (row_next hb (unhide R0))
        replace R1 := hide (row_next hb (unhide R1))
        replace p0 := hide ((unhide p0).next hb)
        replace p1 := hide ((unhide p1).next hb)
        replace HB := hide (below_two (unhide HB) hb)
        clear hb
        have R2 := hr
        clear hr
        clear k0 kS k00 hd
        generalize wc = X70 at *
        obtain ⟨q_R2_0, q_R2_1⟩ := row2 (unhide R2)
        obtain ⟨q_R0_0, q_R0_1⟩ := row2 (unhide R0)
        go_wp2_with fail
        clear q_R2_0 q_R2_1 q_R0_0 q_R0_1
        go_fit (unhide EP _ _ _ _ _ _ _ _ _ _ _ (unhide p2) (unhide p0))
        rintro r w4 ⟨rfl, hb⟩
        replace RM := hide (row_next hb (unhide RM))
        replace RP := hide (row_next hb (unhide RP))
        replace R0 := hide (row_next hb (unhide R0))
        replace R1 := hide (row_next hb (unhide R1))
        replace R2 := hide (row_next hb (unhide R2))
        replace p0 := hide ((unhide p0).next hb)
        replace p1 := hide ((unhide p1).next hb)
        replace p2 := hide ((unhide p2).next hb)
        replace HB := hide (below_two (unhide HB) hb)
        clear hb
        go_wp2_with fail
        have k0 := hide (show ∀ u, Below w4.heap.size w4 u → (u.cell? ⟨w2.heap.size, 0, none⟩ = some (.slice (some ⟨s60, 0, none⟩) n n) ∧ u.cell? ⟨w2.heap.size, 1, none⟩ = some (.slice (some ⟨t60, 0, none⟩) m m) ∧ u.cell? ⟨w.heap.size + 1, 0, none⟩ = some (.slice a n c) ∧ u.cell? ⟨w.heap.size + 1, 1, none⟩ = some (.slice b m d) ∧ Below w4.heap.size w4 u) from fun u h => ⟨(row2 (row_next h (unhide R1))).1, (row2 (row_next h (unhide R1))).2, (row2 (row_next h (unhide RP))).1, (row2 (row_next h (unhide RP))).2, h⟩)
        have kS := hide (show ∀ u, (u.cell? ⟨w2.heap.size, 0, none⟩ = some (.slice (some ⟨s60, 0, none⟩) n n) ∧ u.cell? ⟨w2.heap.size, 1, none⟩ = some (.slice (some ⟨t60, 0, none⟩) m m) ∧ u.cell? ⟨w.heap.size + 1, 0, none⟩ = some (.slice a n c) ∧ u.cell? ⟨w.heap.size + 1, 1, none⟩ = some (.slice b m d) ∧ Below w4.heap.size w4 u) → Below w4.heap.size w4 u from fun u h => h.2.2.2.2)
        have k00 := hide (unhide k0 _ (Below.refl _ _).drew)
        have hd : w4.drew.heap.size = w4.heap.size := rfl
        go_cut [37] (fun s u => s = .bool false ∧ Below w4.heap.size w4 u)
        case first =>
          go_region_held3 (fun u => u.cell? ⟨w2.heap.size, 0, none⟩ = some (.slice (some ⟨s60, 0, none⟩) n n) ∧ u.cell? ⟨w2.heap.size, 1, none⟩ = some (.slice (some ⟨t60, 0, none⟩) m m) ∧ u.cell? ⟨w.heap.size + 1, 0, none⟩ = some (.slice a n c) ∧ u.cell? ⟨w.heap.size + 1, 1, none⟩ = some (.slice b m d) ∧ Below w4.heap.size w4 u) ((first | with_reducible exact unhide k00 | (refine unhide k0 _ ?_; first | with_reducible assumption | (with_reducible refine below_new _ ?_ (Nat.le_refl _); with_reducible assumption) | (with_reducible refine Below.drew ?_; with_reducible exact below_new _ (Below.refl _ _) (Nat.le_refl _)) | (with_reducible refine below_put2 ?_ ?_ _ _ <;> first | with_reducible assumption | omega)))) (first | (go_at_call 20; go_fit (unhide TP _ (below_two (unhide HB) (unhide kS _ (by with_reducible assumption)))); rintro r y1 ⟨s1, t1, rfl, hpv, hb1⟩; have hW1 := below_after hb1 (unhide kS _ (by with_reducible assumption)) (Nat.le_refl _); have hsz := hb1.size; have hge := hW1.size; skip; have pv := hide hpv; clear hpv) | (go_at_call 21; (first | go_fit (unhide EX _ _ _ _ _ _ _ _ _ _ _ ((unhide p1).next (unhide kS _ (by with_reducible assumption))) (unhide pv))); rintro r y1 ⟨rfl, hb1⟩; have hW1 := below_after hb1 (unhide kS _ (by with_reducible assumption)) (Nat.le_refl _); have hsz := hb1.size; have hge := hW1.size))
          all_goals
            go_wp2_with fail
            go_meet
            exact ⟨rfl, unhide kS _ (by with_reducible assumption)⟩
        case rest =>
          obtain ⟨rfl, hb⟩ := hcut
          replace RM := hide (row_next hb (unhide RM))
          replace RP := hide (row_next hb (unhide RP))
          replace R0 := hide (row_next hb (unhide R0))
          replace R1 := hide (row_next hb (unhide R1))
          replace R2 := hide (row_next hb (unhide R2))
          replace p0 := hide ((unhide p0).next hb)
          replace p1 := hide ((unhide p1).next hb)
          replace p2 := hide ((unhide p2).next hb)
          replace HB := hide (below_two (unhide HB) hb)
          clear hb
          clear k0 kS k00 hd
          generalize wc = X80 at *
          obtain ⟨q_R1_0, q_R1_1⟩ := row2 (unhide R1)
          go_wp2_with fail
          clear q_R1_0 q_R1_1
          go_fit (unhide MX _ _ _ _ (unhide p1))
          rintro r w5 ⟨rfl, hm, ho⟩
          replace RM := hide (unhide k_RM_p1 _ _ ho _ rfl (unhide p1) (unhide RM))
          replace RP := hide (unhide k_RP_p1 _ _ ho _ rfl (unhide p1) (unhide RP))
          replace R0 := hide (unhide k_R0_p1 _ _ ho _ rfl (unhide p1) (unhide R0))
          replace R1 := hide (ho.new (unhide old_p1) (unhide R1) (unhide ge_R1_p1))
          replace R2 := hide (ho.at (unhide nq_R2_p1) (unhide R2))
          replace p0 := hide (ho.keep (unhide p0) (unhide ap_p0_p1))
          replace p2 := hide (ho.keep (unhide p2) (unhide ap_p1_p2).symm)
          replace HB := hide (ho.after (unhide p1) (unhide lb_p1) (unhide HB).size (unhide HB))
          replace p1 := hide hm
          clear hm ho
          clear p1
          obtain ⟨q_R2_0, q_R2_1⟩ := row2 (unhide R2)
          obtain ⟨q_R0_0, q_R0_1⟩ := row2 (unhide R0)
          go_wp2_with fail
          clear q_R2_0 q_R2_1 q_R0_0 q_R0_1
          go_fit (unhide EP _ _ _ _ _ _ _ _ _ _ _ (unhide p2) (unhide p0))
          rintro r w6 ⟨rfl, hb⟩
          replace RM := hide (row_next hb (unhide RM))
          replace RP := hide (row_next hb (unhide RP))
          replace R0 := hide (row_next hb (unhide R0))
          replace R1 := hide (row_next hb (unhide R1))
          replace R2 := hide (row_next hb (unhide R2))
          replace p0 := hide ((unhide p0).next hb)
          replace p2 := hide ((unhide p2).next hb)
          replace HB := hide (below_two (unhide HB) hb)
          clear hb
          obtain ⟨q_R2_0, q_R2_1⟩ := row2 (unhide R2)
          go_wp2_with fail
          clear q_R2_0 q_R2_1
          go_fit (unhide MP _ _ _ _ (unhide p2))
          rintro r w7 ⟨rfl, hm, ho⟩
          replace RM := hide (unhide k_RM_p2 _ _ ho _ rfl (unhide p2) (unhide RM))
          replace RP := hide (unhide k_RP_p2 _ _ ho _ rfl (unhide p2) (unhide RP))
          replace R0 := hide (unhide k_R0_p2 _ _ ho _ rfl (unhide p2) (unhide R0))
          replace R1 := hide (unhide k_R1_p2 _ _ ho _ rfl (unhide p2) (unhide R1))
          replace R2 := hide (ho.at (unhide nq_R2_p2) (unhide R2))
          replace p0 := hide (ho.keep (unhide p0) (unhide ap_p0_p2))
          replace HB := hide (ho.after (unhide p2) (unhide lb_p2) (unhide HB).size (unhide HB))
          replace p2 := hide hm
          clear hm ho
          obtain ⟨q_R2_0, q_R2_1⟩ := row2 (unhide R2)
          go_wp2_with fail
          clear q_R2_0 q_R2_1
          go_fit (unhide HP _ _ _ _ (unhide p2))
          rintro r w8 ⟨rfl, hb⟩
          replace RM := hide (row_next hb (unhide RM))
          replace RP := hide (row_next hb (unhide RP))
          replace R0 := hide (row_next hb (unhide R0))
          replace R1 := hide (row_next hb (unhide R1))
          replace R2 := hide (row_next hb (unhide R2))
          replace p0 := hide ((unhide p0).next hb)
          replace p2 := hide ((unhide p2).next hb)
          replace HB := hide (below_two (unhide HB) hb)
          clear hb
          go_wp2_with fail
          have k0 := hide (show ∀ u, Below w8.heap.size w8 u → (u.cell? ⟨w.heap.size, 0, none⟩ = some (.int .i64 A) ∧ u.cell? ⟨w.heap.size, 1, none⟩ = some (.int .i64 B) ∧ u.cell? ⟨w.heap.size, 2, none⟩ = some (.int .i64 C) ∧ u.cell? ⟨w.heap.size, 3, none⟩ = some (.int .i64 D) ∧ u.cell? ⟨w.heap.size, 4, none⟩ = some (.int .i64 E) ∧ u.cell? ⟨w.heap.size, 5, none⟩ = some (.int .i64 F) ∧ u.cell? ⟨w.heap.size + 1, 0, none⟩ = some (.slice a n c) ∧ u.cell? ⟨w.heap.size + 1, 1, none⟩ = some (.slice b m d) ∧ Below w8.heap.size w8 u) from fun u h => ⟨(row6 (row_next h (unhide RM))).1, (row6 (row_next h (unhide RM))).2.1, (row6 (row_next h (unhide RM))).2.2.1, (row6 (row_next h (unhide RM))).2.2.2.1, (row6 (row_next h (unhide RM))).2.2.2.2.1, (row6 (row_next h (unhide RM))).2.2.2.2.2, (row2 (row_next h (unhide RP))).1, (row2 (row_next h (unhide RP))).2, h⟩)
          have kS := hide (show ∀ u, (u.cell? ⟨w.heap.size, 0, none⟩ = some (.int .i64 A) ∧ u.cell? ⟨w.heap.size, 1, none⟩ = some (.int .i64 B) ∧ u.cell? ⟨w.heap.size, 2, none⟩ = some (.int .i64 C) ∧ u.cell? ⟨w.heap.size, 3, none⟩ = some (.int .i64 D) ∧ u.cell? ⟨w.heap.size, 4, none⟩ = some (.int .i64 E) ∧ u.cell? ⟨w.heap.size, 5, none⟩ = some (.int .i64 F) ∧ u.cell? ⟨w.heap.size + 1, 0, none⟩ = some (.slice a n c) ∧ u.cell? ⟨w.heap.size + 1, 1, none⟩ = some (.slice b m d) ∧ Below w8.heap.size w8 u) → Below w8.heap.size w8 u from fun u h => h.2.2.2.2.2.2.2.2)
          have k00 := hide (unhide k0 _ (Below.refl _ _).drew)
          have hd : w8.drew.heap.size = w8.heap.size := rfl
          go_cut [12] (fun s u => ∃ q a c b d, s = .pointer (some ⟨q, 0, none⟩) ∧ u.heap[q]? = some (.cells #[.slice a N c, .slice b M d] 33 (0, 0)) ∧ PathV u w8.heap.size (.slice a N c) (.slice b M d) N M vf mf ∧ NotOf q (.slice a N c) (.slice b M d) ∧ w8.heap.size ≤ q ∧ Below w8.heap.size w8 u)
          case first =>
            go_region_held3 (fun u => u.cell? ⟨w.heap.size, 0, none⟩ = some (.int .i64 A) ∧ u.cell? ⟨w.heap.size, 1, none⟩ = some (.int .i64 B) ∧ u.cell? ⟨w.heap.size, 2, none⟩ = some (.int .i64 C) ∧ u.cell? ⟨w.heap.size, 3, none⟩ = some (.int .i64 D) ∧ u.cell? ⟨w.heap.size, 4, none⟩ = some (.int .i64 E) ∧ u.cell? ⟨w.heap.size, 5, none⟩ = some (.int .i64 F) ∧ u.cell? ⟨w.heap.size + 1, 0, none⟩ = some (.slice a n c) ∧ u.cell? ⟨w.heap.size + 1, 1, none⟩ = some (.slice b m d) ∧ Below w8.heap.size w8 u) ((first | with_reducible exact unhide k00 | (refine unhide k0 _ ?_; first | with_reducible assumption | (with_reducible refine below_new _ ?_ (Nat.le_refl _); with_reducible assumption) | (with_reducible refine Below.drew ?_; with_reducible exact below_new _ (Below.refl _ _) (Nat.le_refl _)) | (with_reducible refine below_put2 ?_ ?_ _ _ <;> first | with_reducible assumption | omega)))) (first | (go_at_call 23; go_fit (unhide TM _); rintro r y1 ⟨rfl, hb1⟩; have hW1 := below_after hb1 (unhide kS _ (by with_reducible assumption)) (Nat.le_refl _); have hsz := hb1.size; have hge := hW1.size; (first | (have zz := carry2 (.slice none 0 0) (.slice none 0 0) 33 hb1 (by with_reducible assumption); obtain ⟨z0, z1, v0, v1, hz, hzl⟩ := zz) | (have zz := carry2 (.slice none 0 0) (.slice none 0 0) 33 hb1 (al1_0 _ _); obtain ⟨z0, z1, v0, v1, hz, hzl⟩ := zz; try simp only [hd] at z0 z1 v0 v1 hz hzl) | skip); (first | (replace pv := hide ((unhide pv).next hb1)) | (replace pv := hide (((unhide pv).next (al1_below _ _)).next hb1)) | skip)) | (go_at_call 20; go_fit (unhide TP _ (below_two (unhide HB) (unhide kS _ (by with_reducible assumption)))); rintro r y1 ⟨s1, t1, rfl, hpv, hb1⟩; have hW1 := below_after hb1 (unhide kS _ (by with_reducible assumption)) (Nat.le_refl _); have hsz := hb1.size; have hge := hW1.size; (first | (have zz := carry2 (.slice none 0 0) (.slice none 0 0) 33 hb1 (by with_reducible assumption); obtain ⟨z0, z1, v0, v1, hz, hzl⟩ := zz) | (have zz := carry2 (.slice none 0 0) (.slice none 0 0) 33 hb1 (al1_0 _ _); obtain ⟨z0, z1, v0, v1, hz, hzl⟩ := zz; try simp only [hd] at z0 z1 v0 v1 hz hzl) | skip); have pv := hide hpv; clear hpv) | (go_at_call 10; (first | go_fit (unhide I _ _ _ _ _ _ (unhide pv)) | go_fit (unhide I _ _ _ _ _ _ ((unhide pv).next (al1_below _ _)))); intro r y1 hres; obtain ⟨a1, c1, b1, d1, rfl, hp1, hb1⟩ := PathRes.open hres; clear hres; have pr := hide (hp1.low (Below.size (unhide kS _ (by with_reducible assumption)))); (first | (have nq := hide (hp1.notOld (heap_lt (by with_reducible assumption))); skip) | (have nq := hide (hp1.notOld (new_lt _ _)); try simp only [hd] at nq) | skip); have hW1 := below_after hb1 (unhide kS _ (by with_reducible assumption)) (Nat.le_refl _); have hsz := hb1.size; have hge := hW1.size; (first | (have zz := carry2 (.slice none 0 0) (.slice none 0 0) 33 hb1 (by with_reducible assumption); obtain ⟨z0, z1, v0, v1, hz, hzl⟩ := zz) | (have zz := carry2 (.slice none 0 0) (.slice none 0 0) 33 hb1 (al1_0 _ _); obtain ⟨z0, z1, v0, v1, hz, hzl⟩ := zz; try simp only [hd] at z0 z1 v0 v1 hz hzl) | skip); skip; clear hp1))
            all_goals
              go_wp2_with fail
              go_meet
              first
              | exact ⟨_, _, _, _, _, rfl, new_row _ _, (unhide pr).next (al1_below _ _), (unhide pr).notNew (Nat.le_refl _), hW1.size, unhide kS _ (by with_reducible assumption)⟩
              | exact ⟨_, _, _, _, _, rfl, put2_row hz, (unhide pr).put (unhide nq), unhide nq, (by first | with_reducible exact Nat.le_refl _ | omega), unhide kS _ (by with_reducible assumption)⟩
          case rest =>
            obtain ⟨q_R3, a90, c90, b90, d90, rfl, hr, hp, hnot, hge, hb⟩ := hcut
            have nq_R3_p0 := hide ((unhide p0).notNew hge)
            have nq_R3_p3 := hide hnot
            clear hge hnot
            replace hr := hide hr
            have k_RM_p3 := hide (fun u u' (ho : Only u u' (.slice a90 N c90) (.slice b90 M d90)) (base) (hb : base = w8.heap.size) (hv : PathV u base (.slice a90 N c90) (.slice b90 M d90) N M vf mf) (hr : u.heap[w.heap.size]? = some (.cells #[.int .i64 A, .int .i64 B, .int .i64 C, .int .i64 D, .int .i64 E, .int .i64 F] 53 (0, 0))) => ho.old hv hr (by rw [hb]; exact heap_lt (unhide RM)))
            have k_RP_p3 := hide (fun u u' (ho : Only u u' (.slice a90 N c90) (.slice b90 M d90)) (base) (hb : base = w8.heap.size) (hv : PathV u base (.slice a90 N c90) (.slice b90 M d90) N M vf mf) (hr : u.heap[w.heap.size + 1]? = some (.cells #[.slice a n c, .slice b m d] 48 (0, 0))) => ho.old hv hr (by rw [hb]; exact heap_lt (unhide RP)))
            have k_R0_p3 := hide (fun u u' (ho : Only u u' (.slice a90 N c90) (.slice b90 M d90)) (base) (hb : base = w8.heap.size) (hv : PathV u base (.slice a90 N c90) (.slice b90 M d90) N M vf mf) (hr : u.heap[q_R0]? = some (.cells #[.slice a50 N c50, .slice b50 M d50] 33 (0, 0))) => ho.old hv hr (by rw [hb]; exact heap_lt (unhide R0)))
            have k_R1_p3 := hide (fun u u' (ho : Only u u' (.slice a90 N c90) (.slice b90 M d90)) (base) (hb : base = w8.heap.size) (hv : PathV u base (.slice a90 N c90) (.slice b90 M d90) N M vf mf) (hr : u.heap[w2.heap.size]? = some (.cells #[.slice (some ⟨s60, 0, none⟩) n n, .slice (some ⟨t60, 0, none⟩) m m] 33 (0, 0))) => ho.old hv hr (by rw [hb]; exact heap_lt (unhide R1)))
            have k_R2_p3 := hide (fun u u' (ho : Only u u' (.slice a90 N c90) (.slice b90 M d90)) (base) (hb : base = w8.heap.size) (hv : PathV u base (.slice a90 N c90) (.slice b90 M d90) N M vf mf) (hr : u.heap[q_R2]? = some (.cells #[.slice a70 N c70, .slice b70 M d70] 33 (0, 0))) => ho.old hv hr (by rw [hb]; exact heap_lt (unhide R2)))
            have ap_p0_p3 := hide ((unhide p0).far hp (Nat.le_refl _))
            have p3 := hide hp
            clear hp
            have lb_p3 := hide (show w.heap.size ≤ w8.heap.size from (unhide HB).size)
            replace RM := hide (row_next hb (unhide RM))
            replace RP := hide (row_next hb (unhide RP))
            replace R0 := hide (row_next hb (unhide R0))
            replace R1 := hide (row_next hb (unhide R1))
            replace R2 := hide (row_next hb (unhide R2))
            replace p0 := hide ((unhide p0).next hb)
            replace p2 := hide ((unhide p2).next hb)
            replace HB := hide (below_two (unhide HB) hb)
            clear hb
            have R3 := hr
            clear hr
            clear k0 kS k00 hd
            generalize wc = X90 at *
            obtain ⟨q_R3_0, q_R3_1⟩ := row2 (unhide R3)
            obtain ⟨q_R0_0, q_R0_1⟩ := row2 (unhide R0)
            go_wp2_with fail
            clear q_R3_0 q_R3_1 q_R0_0 q_R0_1
            go_fit (unhide EP _ _ _ _ _ _ _ _ _ _ _ (unhide p3) (unhide p0))
            rintro r w9 ⟨rfl, hb⟩
            replace RM := hide (row_next hb (unhide RM))
            replace RP := hide (row_next hb (unhide RP))
            replace R0 := hide (row_next hb (unhide R0))
            replace R1 := hide (row_next hb (unhide R1))
            replace R2 := hide (row_next hb (unhide R2))
            replace R3 := hide (row_next hb (unhide R3))
            replace p0 := hide ((unhide p0).next hb)
            replace p3 := hide ((unhide p3).next hb)
            replace p2 := hide ((unhide p2).next hb)
            replace HB := hide (below_two (unhide HB) hb)
            clear hb
            obtain ⟨q_R2_0, q_R2_1⟩ := row2 (unhide R2)
            go_wp2_with fail
            clear q_R2_0 q_R2_1
            go_fit (unhide HP _ _ _ _ (unhide p2))
            rintro r w10 ⟨rfl, hb⟩
            replace RM := hide (row_next hb (unhide RM))
            replace RP := hide (row_next hb (unhide RP))
            replace R0 := hide (row_next hb (unhide R0))
            replace R1 := hide (row_next hb (unhide R1))
            replace R2 := hide (row_next hb (unhide R2))
            replace R3 := hide (row_next hb (unhide R3))
            replace p0 := hide ((unhide p0).next hb)
            replace p3 := hide ((unhide p3).next hb)
            replace p2 := hide ((unhide p2).next hb)
            replace HB := hide (below_two (unhide HB) hb)
            clear hb
            go_wp2_with fail
            go_ret
            exact ⟨rfl, unhide HB⟩
end Go.Proofs.Ytmonjackmhijcaa
