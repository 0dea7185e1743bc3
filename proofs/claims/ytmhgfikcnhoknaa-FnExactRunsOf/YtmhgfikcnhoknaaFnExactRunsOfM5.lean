/-
  MaskRl · BoxI · MaskI · MaskJ · WindS · WindM · MaskO: texts of one claim, in one.
-/
import Derived.Test.YtmhgfikcnhoknaaFnExactRunsOfM3
import Derived.Test.YtmhgfikcnhoknaaFnExactRunsOfM4
import Derived.Deep.RegionHeld3
import Derived.Deep.DeepCutAuto
import Derived.Deep.DeepFit
import Derived.Test.YtmhgfikcnhoknaaFnExactRunsOfM2
import Derived.Test.YtmhgfikcnhoknaaFnExactRunsOfM1

/-
  The exact law of RunsOf, from what the program's function answers. (By runslaw.py.)
-/
namespace Go.Proofs.Ytmhgfikcnhoknaa
open Go.RowKit
set_option linter.unusedVariables false

/-- A list of runs of one's own. -/
def RunsV (w : World) (base : Nat) (v : Value) (n : Nat) (G : Nat → B4) : Prop := ∃ xs, w.ownsRow base 60 4 v n xs ∧ BxAt xs G n
def MarkedR (w : World) (base : Nat) (v : Value) (n : Nat) : Prop := ∃ xs, w.ownsRow base 60 4 v n xs ∧ Ramp xs 1 (n * 4)
theorem RunsV.next {w w' : World} {base n : Nat} {v : Value} {G : Nat → B4} (h : RunsV w base v n G) (hb : Below w.heap.size w w') : RunsV w' base v n G := let ⟨xs, h1, h2⟩ := h; ⟨xs, own_below h1 hb, h2⟩
theorem MarkedR.next {w w' : World} {base n : Nat} {v : Value} (h : MarkedR w base v n) (hb : Below w.heap.size w w') : MarkedR w' base v n := let ⟨xs, h1, h2⟩ := h; ⟨xs, own_below h1 hb, h2⟩
theorem RunsV.lt {w : World} {base n : Nat} {v : Value} {G : Nat → B4} (h : RunsV w base v n G) : ∀ k, v.ownBlock = some k → base ≤ k ∧ k < w.heap.size := let ⟨_, h1, _⟩ := h; h1.lt
theorem RunsV.at {w : World} {base n c : Nat} {a : Option Addr} {G : Nat → B4} (h : RunsV w base (.slice a n c) n G) : ∀ i, i < n → RnAt w a i (G i) := let ⟨_, h1, h2⟩ := h; own_bxa h1 h2
theorem RunsV.kept {w w' : World} {base n : Nat} {v : Value} {G : Nat → B4} {row : Option Nat} (h : RunsV w base v n G) (hg : w.grownBy w' row) (ap : v.ownBlock = none ∨ v.ownBlock ≠ row) : RunsV w' base v n G := let ⟨xs, h1, h2⟩ := h; ⟨xs, h1.kept hg ap, h2⟩
theorem MarkedR.kept {w w' : World} {base n : Nat} {v : Value} {row : Option Nat} (h : MarkedR w base v n) (hg : w.grownBy w' row) (ap : v.ownBlock = none ∨ v.ownBlock ≠ row) : MarkedR w' base v n := let ⟨xs, h1, h2⟩ := h; ⟨xs, h1.kept hg ap, h2⟩
theorem bx_list (l : List B4) : BxAt (rsV l) (listB l) l.length := by
  intro j hj
  obtain ⟨h0, h1, h2, h3⟩ := rsV_get l j hj
  rw [listB_get hj]
  exact ⟨h0, h1, h2, h3⟩
theorem RunsRes.open {w w' : World} {r : Ending} {l : List B4} (h : RunsRes w r w' l) : ∃ p cp, r = .returned (.slice p l.length cp) ∧ RunsV w' w.heap.size (.slice p l.length cp) l.length (listB l) ∧ Below w.heap.size w w' := by
  obtain ⟨v, rfl, h1, h2⟩ := h
  obtain ⟨p, cp, rfl⟩ := own_form h1
  exact ⟨p, cp, rfl, ⟨_, h1, bx_list l⟩, h2⟩
theorem markRuns_v (v : Value) (base n : Nat) (G : Nat → B4) (hn : n ≤ 1048576) (w : World) (h : RunsV w base v n G) :
    Calls Try.prog 16 #[v, .int .i64 1] w fun r w' => r = .returned (.int .i64 ((1 + n * 4 : Nat) : Int)) ∧ MarkedR w' base v n ∧ w.grownBy w' v.ownBlock :=
  let ⟨xs, h1, _⟩ := h; markRunS_any v base n 1 xs (by omega) hn w h1
theorem heldRuns_v (v : Value) (base n : Nat) (hn : n ≤ 1048576) (w : World) (h : MarkedR w base v n) :
    Calls Try.prog 17 #[v, .int .i64 1] w fun r w' => r = .returned (.int .i64 ((1 + n * 4 : Nat) : Int)) ∧ Below w.heap.size w w' :=
  let ⟨xs, h1, h2⟩ := h; (heldRunS_yes v base n 1 xs (by omega) hn w h1 h2).mono fun _ _ ⟨e1, e2⟩ => ⟨e1, e2 ▸ Below.refl _ _⟩
theorem runsM_len (a b c d : Int) (n : Nat) (f : Nat → Int) : (runsM a b c d n f).length ≤ 1048576 := by
  unfold runsM
  split
  · rename_i h
    rcases maskOk_iff.1 h with ⟨_, rfl, rfl, rfl, rfl⟩ | ⟨_, hb, _⟩
    · simp [runsL, wideN, runsN]
    · exact Nat.le_trans (runsL_len f) (Nat.le_trans (sqN_le hb).1 (by omega))
  · simp

set_option maxHeartbeats 16000000 in
set_option maxRecDepth 100000 in
theorem fnExactRunsOf_of (EI : ∀ (a b c d : Int) (f : Nat → Int) (ao : Option Addr) (n cp : Nat) (hn : n ≤ 1048576) (hc : n ≤ cp) (w : World) (P : ∀ i, i < n → IntAt w ao i (f i)), Calls Try.prog 14 #[.agg #[.int .i64 a, .int .i64 b, .int .i64 c, .int .i64 d, .slice ao n cp]] w fun r w' => RunsRes w r w' (runsM a b c d n f))
    (a b c d : Int) (ao : Option Addr) (n cp : Nat) (f : Nat → Int) (w : World) (hw : n ≤ maxLen ∧ ∀ i, i < n → IntAt w ao i (f i)) :
    Calls Try.prog 4 #[.agg #[.int .i64 a, .int .i64 b, .int .i64 c, .int .i64 d, .slice ao n cp]] w fun r w' => r = .returned (.bool true) ∧ Below w.heap.size w w' := by
  obtain ⟨hm, P⟩ := hw
  have Z := hide (szMask_any a b c d ao n cp 1048576 (by omega) hm)
  by_cases hbig : (1048576 : Int) < (n : Int)
  · rw [if_pos hbig] at Z
    go_enter Try.func4, Try.ntmps4
    go_wp2_with fail
    go_fit (unhide Z _)
    rintro r w1 ⟨rfl, hb⟩
    go_wp2_with fail
    go_ret
    exact ⟨rfl, below_two (al1_below _ _) hb⟩
  rw [if_neg hbig] at Z
  have hpos : ¬ ((1048576 : Int) - (n : Int) < 0) := by omega
  have hn : n ≤ 1048576 := by omega
  have T := hide (fun u (hu : Below w.heap.size w u) => toMask_any a b c d f ao n cp hn u (fun i hi => (P i hi).next hu))
  have S := hide (fun (u : World) (s base : Nat) (h : IntsV u base (.slice (some ⟨s, 0, none⟩) n n) n f) => specRunsOf_any a b c d f (some ⟨s, 0, none⟩) n n hn u h.ints)
  have I := hide (fun (u : World) (s base : Nat) (h : IntsV u base (.slice (some ⟨s, 0, none⟩) n n) n f) => EI a b c d f (some ⟨s, 0, none⟩) n n hn (Nat.le_refl _) u h.ints)
  have EX := hide (fun (u : World) (s t base base' : Nat) (h : IntsV u base (.slice (some ⟨s, 0, none⟩) n n) n f) (h' : IntsV u base' (.slice (some ⟨t, 0, none⟩) n n) n f) => eqMask_same a b c d f (some ⟨s, 0, none⟩) (some ⟨t, 0, none⟩) n n n hn u h.ints h'.ints)
  have MX := hide (fun (u : World) (s base : Nat) (h1 : IntsV u base (.slice (some ⟨s, 0, none⟩) n n) n f) => markInts_v a b c d _ base n 1 f (by omega) hn u h1)
  have hL := hide (runsM_len a b c d n f)
  generalize runsM a b c d n f = L at S I hL
  have ER := hide (fun (u : World) (x y : Option Addr) (cx cy base base' : Nat) (h1 : RunsV u base (.slice x L.length cx) L.length (listB L)) (h2 : RunsV u base' (.slice y L.length cy) L.length (listB L)) => eqRunS_arg (listB L) x y L.length cx cy (unhide hL) u h1.at h2.at)
  have MR := hide (fun (u : World) (x : Option Addr) (cx base : Nat) (h1 : RunsV u base (.slice x L.length cx) L.length (listB L)) => markRuns_v _ base L.length (listB L) (unhide hL) u h1)
  have HR := hide (fun (u : World) (x : Option Addr) (cx base : Nat) (h1 : MarkedR u base (.slice x L.length cx) L.length) => heldRuns_v _ base L.length (unhide hL) u h1)
  have hq1 : ¬ (((1 + n : Nat) : Int) < 0) := by omega
  have hq2 : ¬ (((1 + L.length * 4 : Nat) : Int) < 0) := by omega
  generalize ((1 + n : Nat) : Int) = Q1 at MX hq1
  generalize ((1 + L.length * 4 : Nat) : Int) = Q2 at MR HR hq2
  have S' := hide (fun u s base h => (unhide S u s base h).mono fun r w' (hr : RunsRes u r w' L) => hr.open)
  have I' := hide (fun u s base h => (unhide I u s base h).mono fun r w' (hr : RunsRes u r w' L) => hr.open)
  generalize listB L = G at S' I' ER MR
  generalize L.length = N at S' I' ER MR HR hL
  clear P hm hbig hn EI hL S I
  go_enter Try.func4, Try.ntmps4
  go_upto_region 1 with fail
  have RA := hide (new_row w (.cells #[.int .i64 a, .int .i64 b, .int .i64 c, .int .i64 d, .slice ao n cp] 26))
  have HB := hide (al1_below w (.cells #[.int .i64 a, .int .i64 b, .int .i64 c, .int .i64 d, .slice ao n cp] 26))
  have CUR := hide (show w.heap.size + 1 ≤ (w.alloc (.cells #[.int .i64 a, .int .i64 b, .int .i64 c, .int .i64 d, .slice ao n cp] 26)).heap.size by rw [al1_size]; exact Nat.le_refl _)
  obtain ⟨c0, hc0⟩ : ∃ b, b = w.heap.size + 1 := ⟨_, rfl⟩
  obtain ⟨b_RA, hbA⟩ : ∃ b, b = w.heap.size := ⟨_, rfl⟩
  have ORD := hide (show w.heap.size ≤ b_RA ∧ b_RA < c0 by omega)
  rw [← hc0] at CUR
  rw [← hbA] at RA
  rw [← hbA]
  clear hc0 hbA
  generalize w.alloc (.cells #[.int .i64 a, .int .i64 b, .int .i64 c, .int .i64 d, .slice ao n cp] 26) = W0 at *
  obtain ⟨q_RA_0, q_RA_1, q_RA_2, q_RA_3, q_RA_4⟩ := row5m (unhide RA)
  go_wp2_with fail
  clear q_RA_0 q_RA_1 q_RA_2 q_RA_3 q_RA_4
  go_fit (unhide Z _)
  rintro r w1 ⟨rfl, hb⟩
  replace RA := hide (row_next hb (unhide RA))
  replace CUR := hide (Nat.le_trans (unhide CUR) (Below.size hb))
  replace HB := hide (below_two (unhide HB) hb)
  clear hb
  clear Z
  obtain ⟨q_RA_0, q_RA_1, q_RA_2, q_RA_3, q_RA_4⟩ := row5m (unhide RA)
  go_wp2_with fail
  clear q_RA_0 q_RA_1 q_RA_2 q_RA_3 q_RA_4
  go_fit (unhide T _ (unhide HB))
  rintro r w2 ⟨s_t, rfl, hp, hb⟩
  have lo0 := CUR
  have lo1 := hide (Below.size hb)
  replace RA := hide (row_next hb (unhide RA))
  replace CUR := hide (Nat.le_trans (unhide CUR) (Below.size hb))
  replace HB := hide (below_two (unhide HB) hb)
  clear hb
  obtain ⟨hi_pt, hhi⟩ : ∃ h, h = w2.heap.size := ⟨_, rfl⟩
  replace CUR := hide (show hi_pt ≤ w2.heap.size by rw [hhi]; exact Nat.le_refl _)
  have B_pt := hide (show ∀ k, (Value.ownBlock (.slice (some ⟨s_t, 0, none⟩) n n)) = some k → w1.heap.size ≤ k ∧ k < hi_pt from fun k hk => by rw [hhi]; exact hp.lt k hk)
  rw [← hhi] at lo1
  clear hhi
  have pt := hide hp
  clear hp
  generalize w1.heap.size = lo_pt at pt B_pt lo0 lo1
  replace ORD := hide (And.intro (unhide ORD) (And.intro (unhide lo0) (unhide lo1)))
  clear lo0 lo1
  go_wp2_with fail
  go_fit (unhide S' _ _ _ (unhide pt))
  rintro r w3 ⟨a_0, c_0, rfl, hp, hb⟩
  have lo0 := CUR
  have lo1 := hide (Below.size hb)
  replace RA := hide (row_next hb (unhide RA))
  replace pt := hide ((unhide pt).next hb)
  replace CUR := hide (Nat.le_trans (unhide CUR) (Below.size hb))
  replace HB := hide (below_two (unhide HB) hb)
  clear hb
  obtain ⟨hi_p0, hhi⟩ : ∃ h, h = w3.heap.size := ⟨_, rfl⟩
  replace CUR := hide (show hi_p0 ≤ w3.heap.size by rw [hhi]; exact Nat.le_refl _)
  have B_p0 := hide (show ∀ k, (Value.ownBlock (.slice a_0 N c_0)) = some k → w2.heap.size ≤ k ∧ k < hi_p0 from fun k hk => by rw [hhi]; exact hp.lt k hk)
  rw [← hhi] at lo1
  clear hhi
  have p0 := hide hp
  clear hp
  generalize w2.heap.size = lo_p0 at p0 B_p0 lo0 lo1
  replace ORD := hide (And.intro (unhide ORD) (And.intro (unhide lo0) (unhide lo1)))
  clear lo0 lo1
  clear pt
  obtain ⟨q_RA_0, q_RA_1, q_RA_2, q_RA_3, q_RA_4⟩ := row5m (unhide RA)
  go_wp2_with fail
  clear q_RA_0 q_RA_1 q_RA_2 q_RA_3 q_RA_4
  go_fit (unhide T _ (unhide HB))
  rintro r w4 ⟨s_a, rfl, hp, hb⟩
  have lo0 := CUR
  have lo1 := hide (Below.size hb)
  replace RA := hide (row_next hb (unhide RA))
  replace p0 := hide ((unhide p0).next hb)
  replace CUR := hide (Nat.le_trans (unhide CUR) (Below.size hb))
  replace HB := hide (below_two (unhide HB) hb)
  clear hb
  obtain ⟨hi_pa, hhi⟩ : ∃ h, h = w4.heap.size := ⟨_, rfl⟩
  replace CUR := hide (show hi_pa ≤ w4.heap.size by rw [hhi]; exact Nat.le_refl _)
  have B_pa := hide (show ∀ k, (Value.ownBlock (.slice (some ⟨s_a, 0, none⟩) n n)) = some k → w3.heap.size ≤ k ∧ k < hi_pa from fun k hk => by rw [hhi]; exact hp.lt k hk)
  rw [← hhi] at lo1
  clear hhi
  have pa := hide hp
  clear hp
  generalize w3.heap.size = lo_pa at pa B_pa lo0 lo1
  replace ORD := hide (And.intro (unhide ORD) (And.intro (unhide lo0) (unhide lo1)))
  clear lo0 lo1
  go_upto_region 7 with fail
  have lo0 := CUR
  have R1 := hide (new_row w4 (.cells #[.int .i64 a, .int .i64 b, .int .i64 c, .int .i64 d, .slice (some ⟨s_a, 0, none⟩) n n] 30))
  have hb := al1_below w4 (.cells #[.int .i64 a, .int .i64 b, .int .i64 c, .int .i64 d, .slice (some ⟨s_a, 0, none⟩) n n] 30)
  replace RA := hide (row_next hb (unhide RA))
  replace p0 := hide ((unhide p0).next hb)
  replace pa := hide ((unhide pa).next hb)
  replace CUR := hide (Nat.le_trans (unhide CUR) (Below.size hb))
  replace HB := hide (below_two (unhide HB) hb)
  clear hb
  replace CUR := hide (show w4.heap.size + 1 ≤ (w4.alloc (.cells #[.int .i64 a, .int .i64 b, .int .i64 c, .int .i64 d, .slice (some ⟨s_a, 0, none⟩) n n] 30)).heap.size by rw [al1_size]; exact Nat.le_refl _)
  generalize w4.alloc (.cells #[.int .i64 a, .int .i64 b, .int .i64 c, .int .i64 d, .slice (some ⟨s_a, 0, none⟩) n n] 30) = W5 at *
  generalize w4.heap.size = b_R1 at R1 CUR lo0 ⊢
  replace ORD := hide (And.intro (unhide ORD) (unhide lo0))
  clear lo0
  obtain ⟨q_R1_0, q_R1_1, q_R1_2, q_R1_3, q_R1_4⟩ := row5m (unhide R1)
  go_wp2_with fail
  clear q_R1_0 q_R1_1 q_R1_2 q_R1_3 q_R1_4
  go_fit (unhide I' _ _ _ (unhide pa))
  rintro r w6 ⟨a_g, c_g, rfl, hp, hb⟩
  have lo0 := CUR
  have lo1 := hide (Below.size hb)
  replace RA := hide (row_next hb (unhide RA))
  replace R1 := hide (row_next hb (unhide R1))
  replace p0 := hide ((unhide p0).next hb)
  replace pa := hide ((unhide pa).next hb)
  replace CUR := hide (Nat.le_trans (unhide CUR) (Below.size hb))
  replace HB := hide (below_two (unhide HB) hb)
  clear hb
  obtain ⟨hi_pg, hhi⟩ : ∃ h, h = w6.heap.size := ⟨_, rfl⟩
  replace CUR := hide (show hi_pg ≤ w6.heap.size by rw [hhi]; exact Nat.le_refl _)
  have B_pg := hide (show ∀ k, (Value.ownBlock (.slice a_g N c_g)) = some k → W5.heap.size ≤ k ∧ k < hi_pg from fun k hk => by rw [hhi]; exact hp.lt k hk)
  rw [← hhi] at lo1
  clear hhi
  have pg := hide hp
  clear hp
  generalize W5.heap.size = lo_pg at pg B_pg lo0 lo1
  replace ORD := hide (And.intro (unhide ORD) (And.intro (unhide lo0) (unhide lo1)))
  clear lo0 lo1
  go_wp2_with fail
  go_fit (unhide ER _ _ _ _ _ _ _ (unhide pg) (unhide p0))
  rintro r w7 ⟨rfl, hb⟩
  replace RA := hide (row_next hb (unhide RA))
  replace R1 := hide (row_next hb (unhide R1))
  replace p0 := hide ((unhide p0).next hb)
  replace pa := hide ((unhide pa).next hb)
  replace pg := hide ((unhide pg).next hb)
  replace CUR := hide (Nat.le_trans (unhide CUR) (Below.size hb))
  replace HB := hide (below_two (unhide HB) hb)
  clear hb
  go_wp2_with fail
  have k0 := hide (show ∀ u, Below w7.heap.size w7 u → (u.cell? ⟨b_R1, 0, none⟩ = some (.int .i64 a) ∧ u.cell? ⟨b_R1, 1, none⟩ = some (.int .i64 b) ∧ u.cell? ⟨b_R1, 2, none⟩ = some (.int .i64 c) ∧ u.cell? ⟨b_R1, 3, none⟩ = some (.int .i64 d) ∧ u.cell? ⟨b_R1, 4, none⟩ = some (.slice (some ⟨s_a, 0, none⟩) n n) ∧ u.cell? ⟨b_RA, 0, none⟩ = some (.int .i64 a) ∧ u.cell? ⟨b_RA, 1, none⟩ = some (.int .i64 b) ∧ u.cell? ⟨b_RA, 2, none⟩ = some (.int .i64 c) ∧ u.cell? ⟨b_RA, 3, none⟩ = some (.int .i64 d) ∧ u.cell? ⟨b_RA, 4, none⟩ = some (.slice ao n cp) ∧ Below w7.heap.size w7 u) from fun u h => ⟨(row5m (row_next h (unhide R1))).1, (row5m (row_next h (unhide R1))).2.1, (row5m (row_next h (unhide R1))).2.2.1, (row5m (row_next h (unhide R1))).2.2.2.1, (row5m (row_next h (unhide R1))).2.2.2.2, (row5m (row_next h (unhide RA))).1, (row5m (row_next h (unhide RA))).2.1, (row5m (row_next h (unhide RA))).2.2.1, (row5m (row_next h (unhide RA))).2.2.2.1, (row5m (row_next h (unhide RA))).2.2.2.2, h⟩)
  have kS := hide (show ∀ u, (u.cell? ⟨b_R1, 0, none⟩ = some (.int .i64 a) ∧ u.cell? ⟨b_R1, 1, none⟩ = some (.int .i64 b) ∧ u.cell? ⟨b_R1, 2, none⟩ = some (.int .i64 c) ∧ u.cell? ⟨b_R1, 3, none⟩ = some (.int .i64 d) ∧ u.cell? ⟨b_R1, 4, none⟩ = some (.slice (some ⟨s_a, 0, none⟩) n n) ∧ u.cell? ⟨b_RA, 0, none⟩ = some (.int .i64 a) ∧ u.cell? ⟨b_RA, 1, none⟩ = some (.int .i64 b) ∧ u.cell? ⟨b_RA, 2, none⟩ = some (.int .i64 c) ∧ u.cell? ⟨b_RA, 3, none⟩ = some (.int .i64 d) ∧ u.cell? ⟨b_RA, 4, none⟩ = some (.slice ao n cp) ∧ Below w7.heap.size w7 u) → Below w7.heap.size w7 u from fun u h => h.2.2.2.2.2.2.2.2.2.2)
  have k00 := hide (unhide k0 _ (Below.refl _ _).drew)
  have hd : w7.drew.heap.size = w7.heap.size := rfl
  go_cut [31] (fun s u => s = .bool false ∧ Below w7.heap.size w7 u)
  case first =>
    go_region_held3 (fun u => u.cell? ⟨b_R1, 0, none⟩ = some (.int .i64 a) ∧ u.cell? ⟨b_R1, 1, none⟩ = some (.int .i64 b) ∧ u.cell? ⟨b_R1, 2, none⟩ = some (.int .i64 c) ∧ u.cell? ⟨b_R1, 3, none⟩ = some (.int .i64 d) ∧ u.cell? ⟨b_R1, 4, none⟩ = some (.slice (some ⟨s_a, 0, none⟩) n n) ∧ u.cell? ⟨b_RA, 0, none⟩ = some (.int .i64 a) ∧ u.cell? ⟨b_RA, 1, none⟩ = some (.int .i64 b) ∧ u.cell? ⟨b_RA, 2, none⟩ = some (.int .i64 c) ∧ u.cell? ⟨b_RA, 3, none⟩ = some (.int .i64 d) ∧ u.cell? ⟨b_RA, 4, none⟩ = some (.slice ao n cp) ∧ Below w7.heap.size w7 u) ((first | with_reducible exact unhide k00 | (refine unhide k0 _ ?_; first | with_reducible assumption | (with_reducible refine below_new _ ?_ (Nat.le_refl _); with_reducible assumption) | (with_reducible refine Below.drew ?_; with_reducible exact below_new _ (Below.refl _ _) (Nat.le_refl _)) | (with_reducible refine below_put5 ?_ ?_ _ _ _ _ _ <;> first | with_reducible assumption | omega)))) (first | (go_at_call 8; go_fit (unhide T _ (below_two (unhide HB) (unhide kS _ (by with_reducible assumption)))); rintro r y1 ⟨s1, rfl, hpv, hb1⟩; have hW1 := below_after hb1 (unhide kS _ (by with_reducible assumption)) (Nat.le_refl _); have hsz := hb1.size; have hge := hW1.size; have pv := hide hpv; clear hpv) | (go_at_call 10; (first | go_fit (unhide EX _ _ _ _ _ ((unhide pa).next (unhide kS _ (by with_reducible assumption))) (unhide pv))); rintro r y1 ⟨rfl, hb1⟩; have hW1 := below_after hb1 (unhide kS _ (by with_reducible assumption)) (Nat.le_refl _); have hsz := hb1.size; have hge := hW1.size))
    all_goals
      go_wp2_with fail
      go_meet
      exact ⟨rfl, unhide kS _ (by with_reducible assumption)⟩
  case rest =>
    obtain ⟨rfl, hb⟩ := hcut
    replace RA := hide (row_next hb (unhide RA))
    replace R1 := hide (row_next hb (unhide R1))
    replace p0 := hide ((unhide p0).next hb)
    replace pa := hide ((unhide pa).next hb)
    replace pg := hide ((unhide pg).next hb)
    replace CUR := hide (Nat.le_trans (unhide CUR) (Below.size hb))
    replace HB := hide (below_two (unhide HB) hb)
    clear hb k0 kS k00 hd
    generalize wc = X60 at *
    obtain ⟨q_R1_0, q_R1_1, q_R1_2, q_R1_3, q_R1_4⟩ := row5m (unhide R1)
    go_wp2_with fail
    clear q_R1_0 q_R1_1 q_R1_2 q_R1_3 q_R1_4
    go_fit (unhide MX _ _ _ (unhide pa))
    rintro r w8 ⟨rfl, hm, hg⟩
    replace RA := hide ((hg.block b_RA (heap_lt (unhide RA)) (fun e => by have h := unhide B_pa _ e.symm; have o := unhide ORD; omega)).trans (unhide RA))
    replace R1 := hide ((hg.block b_R1 (heap_lt (unhide R1)) (fun e => by have h := unhide B_pa _ e.symm; have o := unhide ORD; omega)).trans (unhide R1))
    replace p0 := hide ((unhide p0).kept hg (apart_bd (unhide B_p0) (unhide B_pa) (by have o := unhide ORD; omega)))
    replace pg := hide ((unhide pg).kept hg (apart_bd (unhide B_pg) (unhide B_pa) (by have o := unhide ORD; omega)))
    replace HB := hide ((unhide HB).grown hg (unhide HB).size (fun k hk => by have h := unhide B_pa _ hk; have o := unhide ORD; omega))
    replace CUR := hide (Nat.le_trans (unhide CUR) hg.size)
    replace pa := hide hm
    clear hm hg
    clear pa
    go_wp2_with fail
    go_fit (unhide ER _ _ _ _ _ _ _ (unhide pg) (unhide p0))
    rintro r w9 ⟨rfl, hb⟩
    replace RA := hide (row_next hb (unhide RA))
    replace R1 := hide (row_next hb (unhide R1))
    replace p0 := hide ((unhide p0).next hb)
    replace pg := hide ((unhide pg).next hb)
    replace CUR := hide (Nat.le_trans (unhide CUR) (Below.size hb))
    replace HB := hide (below_two (unhide HB) hb)
    clear hb
    go_wp2_with fail
    go_fit (unhide MR _ _ _ _ (unhide pg))
    rintro r w10 ⟨rfl, hm, hg⟩
    replace RA := hide ((hg.block b_RA (heap_lt (unhide RA)) (fun e => by have h := unhide B_pg _ e.symm; have o := unhide ORD; omega)).trans (unhide RA))
    replace R1 := hide ((hg.block b_R1 (heap_lt (unhide R1)) (fun e => by have h := unhide B_pg _ e.symm; have o := unhide ORD; omega)).trans (unhide R1))
    replace p0 := hide ((unhide p0).kept hg (apart_bd (unhide B_p0) (unhide B_pg) (by have o := unhide ORD; omega)))
    replace HB := hide ((unhide HB).grown hg (unhide HB).size (fun k hk => by have h := unhide B_pg _ hk; have o := unhide ORD; omega))
    replace CUR := hide (Nat.le_trans (unhide CUR) hg.size)
    replace pg := hide hm
    clear hm hg
    go_wp2_with fail
    go_fit (unhide HR _ _ _ _ (unhide pg))
    rintro r w11 ⟨rfl, hb⟩
    replace RA := hide (row_next hb (unhide RA))
    replace R1 := hide (row_next hb (unhide R1))
    replace p0 := hide ((unhide p0).next hb)
    replace pg := hide ((unhide pg).next hb)
    replace CUR := hide (Nat.le_trans (unhide CUR) (Below.size hb))
    replace HB := hide (below_two (unhide HB) hb)
    clear hb
    obtain ⟨q_RA_0, q_RA_1, q_RA_2, q_RA_3, q_RA_4⟩ := row5m (unhide RA)
    go_wp2_with fail
    clear q_RA_0 q_RA_1 q_RA_2 q_RA_3 q_RA_4
    go_fit (unhide T _ (unhide HB))
    rintro r w12 ⟨s_u, rfl, hp, hb⟩
    have lo0 := CUR
    have lo1 := hide (Below.size hb)
    replace RA := hide (row_next hb (unhide RA))
    replace R1 := hide (row_next hb (unhide R1))
    replace p0 := hide ((unhide p0).next hb)
    replace pg := hide ((unhide pg).next hb)
    replace CUR := hide (Nat.le_trans (unhide CUR) (Below.size hb))
    replace HB := hide (below_two (unhide HB) hb)
    clear hb
    obtain ⟨hi_pu, hhi⟩ : ∃ h, h = w12.heap.size := ⟨_, rfl⟩
    replace CUR := hide (show hi_pu ≤ w12.heap.size by rw [hhi]; exact Nat.le_refl _)
    have B_pu := hide (show ∀ k, (Value.ownBlock (.slice (some ⟨s_u, 0, none⟩) n n)) = some k → w11.heap.size ≤ k ∧ k < hi_pu from fun k hk => by rw [hhi]; exact hp.lt k hk)
    rw [← hhi] at lo1
    clear hhi
    have pu := hide hp
    clear hp
    generalize w11.heap.size = lo_pu at pu B_pu lo0 lo1
    replace ORD := hide (And.intro (unhide ORD) (And.intro (unhide lo0) (unhide lo1)))
    clear lo0 lo1
    go_wp2_with fail
    go_fit (unhide I' _ _ _ (unhide pu))
    rintro r w13 ⟨a_h, c_h, rfl, hp, hb⟩
    have lo0 := CUR
    have lo1 := hide (Below.size hb)
    replace RA := hide (row_next hb (unhide RA))
    replace R1 := hide (row_next hb (unhide R1))
    replace p0 := hide ((unhide p0).next hb)
    replace pu := hide ((unhide pu).next hb)
    replace pg := hide ((unhide pg).next hb)
    replace CUR := hide (Nat.le_trans (unhide CUR) (Below.size hb))
    replace HB := hide (below_two (unhide HB) hb)
    clear hb
    obtain ⟨hi_ph, hhi⟩ : ∃ h, h = w13.heap.size := ⟨_, rfl⟩
    replace CUR := hide (show hi_ph ≤ w13.heap.size by rw [hhi]; exact Nat.le_refl _)
    have B_ph := hide (show ∀ k, (Value.ownBlock (.slice a_h N c_h)) = some k → w12.heap.size ≤ k ∧ k < hi_ph from fun k hk => by rw [hhi]; exact hp.lt k hk)
    rw [← hhi] at lo1
    clear hhi
    have ph := hide hp
    clear hp
    generalize w12.heap.size = lo_ph at ph B_ph lo0 lo1
    replace ORD := hide (And.intro (unhide ORD) (And.intro (unhide lo0) (unhide lo1)))
    clear lo0 lo1
    go_wp2_with fail
    go_fit (unhide ER _ _ _ _ _ _ _ (unhide ph) (unhide p0))
    rintro r w14 ⟨rfl, hb⟩
    replace RA := hide (row_next hb (unhide RA))
    replace R1 := hide (row_next hb (unhide R1))
    replace p0 := hide ((unhide p0).next hb)
    replace pu := hide ((unhide pu).next hb)
    replace ph := hide ((unhide ph).next hb)
    replace pg := hide ((unhide pg).next hb)
    replace CUR := hide (Nat.le_trans (unhide CUR) (Below.size hb))
    replace HB := hide (below_two (unhide HB) hb)
    clear hb
    go_wp2_with fail
    go_fit (unhide HR _ _ _ _ (unhide pg))
    rintro r w15 ⟨rfl, hb⟩
    replace RA := hide (row_next hb (unhide RA))
    replace R1 := hide (row_next hb (unhide R1))
    replace p0 := hide ((unhide p0).next hb)
    replace pu := hide ((unhide pu).next hb)
    replace ph := hide ((unhide ph).next hb)
    replace pg := hide ((unhide pg).next hb)
    replace CUR := hide (Nat.le_trans (unhide CUR) (Below.size hb))
    replace HB := hide (below_two (unhide HB) hb)
    clear hb
    go_wp2_with fail
    go_ret
    exact ⟨rfl, unhide HB⟩
end Go.Proofs.Ytmhgfikcnhoknaa

/-
  The walks of the program's chapter 5: boxes.
-/
namespace Go.Proofs.Ytmhgfikcnhoknaa
open Go.RowKit

set_option maxHeartbeats 1000000 in
theorem implEmpty_any (a b c d : Int) (w : World) :
    Calls Try.prog 31 #[.agg #[.int .i64 a, .int .i64 b, .int .i64 c, .int .i64 d]] w fun r w' => r = .returned (.bool (emptyB a b c d)) ∧ Below w.heap.size w w' := by
  by_cases h1 : c ≤ a
  · have H : Hid (true = emptyB a b c d) := by unfold Hid emptyB; simp [h1]
    have d1 : decide (c ≤ a) = true := decide_eq_true h1
    go_enter Try.func31, Try.ntmps31
    go_wp2
    go_ret
    exact ⟨ret_bool' (unhide H), al1_below _ _⟩
  · have d1 : decide (c ≤ a) = false := decide_eq_false h1
    by_cases h2 : d ≤ b
    · have H : Hid (true = emptyB a b c d) := by unfold Hid emptyB; simp [h2]
      have d2 : decide (d ≤ b) = true := decide_eq_true h2
      go_enter Try.func31, Try.ntmps31
      go_wp2
      go_ret
      exact ⟨ret_bool' (unhide H), al1_below _ _⟩
    · have H : Hid (false = emptyB a b c d) := by unfold Hid emptyB; simp [h1, h2]
      have d2 : decide (d ≤ b) = false := decide_eq_false h2
      go_enter Try.func31, Try.ntmps31
      go_wp2
      go_ret
      exact ⟨ret_bool' (unhide H), al1_below _ _⟩

set_option maxHeartbeats 1000000 in
set_option maxRecDepth 100000 in
theorem implBoxWithin_any (a b c d L : Int) (hL : 0 ≤ L ∧ L ≤ 41943040) (w : World) :
    Calls Try.prog 53 #[.agg #[.int .i64 a, .int .i64 b, .int .i64 c, .int .i64 d], .int .i64 L] w fun r w' => r = .returned (.agg #[.int .i64 (clampI a (-L) L), .int .i64 (clampI b (-L) L), .int .i64 (clampI c (-L) L), .int .i64 (clampI d (-L) L)]) ∧ Below w.heap.size w w' := by
  have K := hide (fun x => implClamp_any x (-L) L)
  have e0 : IntKind.i64.wrap (-L) = -L := IntWalk.i64_in _ (by omega)
  generalize clampI = cl at K ⊢
  clear hL
  go_enter Try.func53, Try.ntmps53
  go_wp2_with fail
  obtain ⟨W, hW⟩ : ∃ W, W = (w.alloc (.cells #[.int .i64 a, .int .i64 b, .int .i64 c, .int .i64 d] 28)).alloc (.cells #[.int .i64 0, .int .i64 0, .int .i64 0, .int .i64 0] 28) := ⟨_, rfl⟩
  obtain ⟨a0, a1, a2, a3⟩ := row4 (w1 := W) (b := w.heap.size) (by rw [hW]; exact al2_0 _ _ _)
  have R : W.heap[w.heap.size + 1]? = some (.cells #[.int .i64 0, .int .i64 0, .int .i64 0, .int .i64 0] 28 (0, 0)) := by rw [hW]; exact al2_1 _ _ _
  obtain ⟨r0, r1, r2, r3⟩ := row4 R
  obtain ⟨f0, f1, f2, f3⟩ := free4 R
  have HB := hide (show Below w.heap.size w W by rw [hW]; exact al2_below _ _ _)
  rw [← hW]
  clear hW R
  have ne1 : ¬ w.heap.size + 1 = w.heap.size := by omega
  have ne2 : ¬ w.heap.size = w.heap.size + 1 := by omega
  go_region_held3 (fun u => u.cell? ⟨w.heap.size, 0, none⟩ = some (.int .i64 a) ∧ u.cell? ⟨w.heap.size, 1, none⟩ = some (.int .i64 b) ∧ u.cell? ⟨w.heap.size, 2, none⟩ = some (.int .i64 c) ∧ u.cell? ⟨w.heap.size, 3, none⟩ = some (.int .i64 d)) (go_keep) (first | (go_at_call 54; go_fit (unhide K _ _); rintro r w4 ⟨rfl, rfl⟩))
  all_goals
    go_wp2_with fail
    refine bodyPost_ret (v := .agg #[.int .i64 (cl a (-L) L), .int .i64 (cl b (-L) L), .int .i64 (cl c (-L) L), .int .i64 (cl d (-L) L)]) (by simp [results, Try.results53, go_sem, r0, r1, r2, r3]) rfl ⟨rfl, ?_⟩
    exact below_put4 (below_drews (unhide HB) 1) (by omega) _ _ _ _

end Go.Proofs.Ytmhgfikcnhoknaa

/-
  The program's masks: boxes that they may have, right ones, rows, the bits of a square.
-/
namespace Go.Proofs.Ytmhgfikcnhoknaa
open Go.RowKit
set_option linter.unusedVariables false

theorem eqlBox (a b c d e f g h : Int) (w : World) : (Op.equalIn 10000 28 (.agg #[.int .i64 a, .int .i64 b, .int .i64 c, .int .i64 d]) (.agg #[.int .i64 e, .int .i64 f, .int .i64 g, .int .i64 h])).run Try.prog w = .ok (decide (a = e) && (decide (b = f) && (decide (c = g) && decide (d = h)))) w := by
  have u3 := Try.underlying3
  have a3 := Try.isAgg3
  have z3 := Try.sizeOf3
  have hS : Try.prog.underlying 28 = some (.struct (Try.prog.fieldsOf 28)) := by kernel_rfl
  rw [show (10000 : Nat) = 9999 + 1 from rfl, run_equalIn_agg w 9999 28 _ _ hS (by kernel_rfl)]
  simp only [Program.fieldsOf, Try.underlying28]
  go_simp
  by_cases h1 : a = e
  · by_cases h2 : b = f
    · by_cases h3 : c = g
      · by_cases h4 : d = h <;> simp [h1, h2, h3, h4]
      · simp [h1, h2, h3]
    · simp [h1, h2]
  · simp [h1]

/-- What the program asks of a box, one behind the other. -/
theorem boxIn_ways (a b c d : Int) : boxInB a b c d = (decide (clampI a (-2000) 2000 = a) && (decide (clampI b (-2000) 2000 = b) && (decide (clampI c (-2000) 2000 = c) && decide (clampI d (-2000) 2000 = d))) && (!emptyB a b c d && (decide (c - a ≤ 60) && decide (d - b ≤ 60)))) := by
  have e : ∀ x : Int, clampI x (-2000) 2000 = x ↔ -2000 ≤ x ∧ x ≤ 2000 := fun x => by unfold clampI; split <;> (try split) <;> omega
  rw [Bool.eq_iff_iff, boxIn_iff]
  simp only [Bool.and_eq_true, decide_eq_true_eq, Bool.not_eq_true', e, emptyB, Bool.or_eq_false_iff, decide_eq_false_iff_not]
  omega

set_option maxHeartbeats 4000000 in
set_option maxRecDepth 100000 in
theorem implMaskBoxOk_any (a b c d : Int) (w : World) :
    Calls Try.prog 43 #[.agg #[.int .i64 a, .int .i64 b, .int .i64 c, .int .i64 d]] w fun r w' => r = .returned (.bool (boxInB a b c d)) ∧ Below w.heap.size w w' := by
  have HW := hide (implBoxWithin_any a b c d 2000 (by omega))
  have HE := hide (implEmpty_any a b c d)
  have H := hide (boxIn_ways a b c d)
  have hw : Hid (clampI a (-2000) 2000 = a → clampI b (-2000) 2000 = b → clampI c (-2000) 2000 = c → clampI d (-2000) 2000 = d → IntKind.i64.wrap (c - a) = c - a ∧ IntKind.i64.wrap (d - b) = d - b) := fun h1 h2 h3 h4 => by
    have e : ∀ x : Int, clampI x (-2000) 2000 = x → -2000 ≤ x ∧ x ≤ 2000 := fun x => by unfold clampI; split <;> (try split) <;> omega
    have := e _ h1; have := e _ h2; have := e _ h3; have := e _ h4
    exact ⟨IntWalk.i64_in _ (by omega), IntWalk.i64_in _ (by omega)⟩
  generalize clampI a (-2000) 2000 = o0 at HW H hw
  generalize clampI b (-2000) 2000 = o1 at HW H hw
  generalize clampI c (-2000) 2000 = o2 at HW H hw
  generalize clampI d (-2000) 2000 = o3 at HW H hw
  generalize emptyB a b c d = E at HE H
  generalize boxInB a b c d = X at H ⊢
  go_enter Try.func43, Try.ntmps43
  go_upto_region 1 with fail
  have R := hide (new_row w (.cells #[.int .i64 a, .int .i64 b, .int .i64 c, .int .i64 d] 28))
  have HB := hide (al1_below w (.cells #[.int .i64 a, .int .i64 b, .int .i64 c, .int .i64 d] 28))
  obtain ⟨b1, hb1⟩ : ∃ b, Hid (b = w.heap.size) := ⟨_, rfl⟩
  rw [← unhide hb1] at R
  rw [← unhide hb1]
  generalize w.alloc (.cells #[.int .i64 a, .int .i64 b, .int .i64 c, .int .i64 d] 28) = W at R HB ⊢
  obtain ⟨I, F, hI, F1, F2⟩ := kept_worlds W
  have q0 : ∀ i, (F i).cell? ⟨b1, 0, none⟩ = some (.int .i64 a) := fun i => (row4 (row_next (F2 i) (unhide R))).1
  have q1 : ∀ i, (F i).cell? ⟨b1, 1, none⟩ = some (.int .i64 b) := fun i => (row4 (row_next (F2 i) (unhide R))).2.1
  have q2 : ∀ i, (F i).cell? ⟨b1, 2, none⟩ = some (.int .i64 c) := fun i => (row4 (row_next (F2 i) (unhide R))).2.2.1
  have q3 : ∀ i, (F i).cell? ⟨b1, 3, none⟩ = some (.int .i64 d) := fun i => (row4 (row_next (F2 i) (unhide R))).2.2.2
  replace F1 := hide F1
  replace F2 := hide F2
  by_cases hq : o0 = a ∧ o1 = b ∧ o2 = c ∧ o3 = d
  · obtain ⟨rfl, rfl, rfl, rfl⟩ := hq
    obtain ⟨w1, w2⟩ := unhide hw rfl rfl rfl rfl
    have eq1 : ∀ u, (Op.equalIn 10000 28 (.agg #[.int .i64 o0, .int .i64 o1, .int .i64 o2, .int .i64 o3]) (.agg #[.int .i64 o0, .int .i64 o1, .int .i64 o2, .int .i64 o3])).run Try.prog u = .ok true u := fun u => by rw [eqlBox]; simp
    rw [decide_eq_true rfl, decide_eq_true rfl, decide_eq_true rfl, decide_eq_true rfl] at H
    clear hw
    cases E with
    | true =>
      replace H : Hid (false = X) := (unhide H).symm
      refine wp_region_quiet_in (unhide F1) (by kernel_rfl) (by kernel_rfl) ?_
      repeat (go_big_quiet_step (first | with_reducible exact quiet_in (unhide F1) (unhide F2) (unhide HW _) | with_reducible exact quiet_in (unhide F1) (unhide F2) (unhide HE _)))
      refine wpQuiet_nil ?_
      rintro _ ⟨i, rfl⟩
      have hF := unhide F2 i
      go_wp2_with fail
      go_ret
      exact ⟨ret_bool (unhide H), below_two (unhide HB) hF⟩
    | false =>
      by_cases h1 : o2 - o0 ≤ 60
      · have d1 : decide (o2 - o0 ≤ 60) = true := decide_eq_true h1
        have hX : Hid (decide (o3 - o1 ≤ 60) = X) := by have := unhide H; rw [d1] at this; exact this.symm
        refine wp_region_quiet_in (unhide F1) (by kernel_rfl) (by kernel_rfl) ?_
        repeat (go_big_quiet_step (first | with_reducible exact quiet_in (unhide F1) (unhide F2) (unhide HW _) | with_reducible exact quiet_in (unhide F1) (unhide F2) (unhide HE _)))
        refine wpQuiet_nil ?_
        rintro _ ⟨i, rfl⟩
        have hF := unhide F2 i
        go_wp2_with fail
        go_ret
        exact ⟨ret_bool (unhide hX), below_two (unhide HB) hF⟩
      · have d1 : decide (o2 - o0 ≤ 60) = false := decide_eq_false h1
        have hX : Hid (false = X) := by have := unhide H; rw [d1] at this; exact this.symm
        refine wp_region_quiet_in (unhide F1) (by kernel_rfl) (by kernel_rfl) ?_
        repeat (go_big_quiet_step (first | with_reducible exact quiet_in (unhide F1) (unhide F2) (unhide HW _) | with_reducible exact quiet_in (unhide F1) (unhide F2) (unhide HE _)))
        refine wpQuiet_nil ?_
        rintro _ ⟨i, rfl⟩
        have hF := unhide F2 i
        go_wp2_with fail
        go_ret
        exact ⟨ret_bool (unhide hX), below_two (unhide HB) hF⟩
  · have hf : (decide (o0 = a) && (decide (o1 = b) && (decide (o2 = c) && decide (o3 = d)))) = false := by
      rw [Bool.eq_false_iff]; intro h; simp only [Bool.and_eq_true, decide_eq_true_eq] at h; exact hq h
    have hX : Hid (false = X) := by have := unhide H; rw [hf] at this; exact this.symm
    have eq1 : ∀ u, (Op.equalIn 10000 28 (.agg #[.int .i64 o0, .int .i64 o1, .int .i64 o2, .int .i64 o3]) (.agg #[.int .i64 a, .int .i64 b, .int .i64 c, .int .i64 d])).run Try.prog u = .ok false u := fun u => by rw [eqlBox, hf]
    clear hw hf hq
    refine wp_region_quiet_in (unhide F1) (by kernel_rfl) (by kernel_rfl) ?_
    repeat (go_big_quiet_step (first | with_reducible exact quiet_in (unhide F1) (unhide F2) (unhide HW _) | with_reducible exact quiet_in (unhide F1) (unhide F2) (unhide HE _)))
    refine wpQuiet_nil ?_
    rintro _ ⟨i, rfl⟩
    have hF := unhide F2 i
    go_wp2_with fail
    go_ret
    exact ⟨ret_bool (unhide hX), below_two (unhide HB) hF⟩

set_option maxHeartbeats 1000000 in
theorem implSquaresIn_any (a b c d : Int) (N : Nat) (h1 : IntKind.i64.wrap (c - a) = c - a) (h2 : IntKind.i64.wrap (d - b) = d - b) (h3 : (N : Int) = (c - a) * (d - b)) (hN : N ≤ 3600) (w : World) :
    Calls Try.prog 51 #[.agg #[.int .i64 a, .int .i64 b, .int .i64 c, .int .i64 d]] w fun r w' => r = .returned (.int .i64 N) ∧ Below w.heap.size w w' := by
  have v3 : IntKind.i64.wrap ((c - a) * (d - b)) = (N : Int) := by rw [← h3]; exact IntWalk.i64_in _ (by omega)
  clear h3
  go_enter Try.func51, Try.ntmps51
  go_wp2_with fail
  go_ret
  exact ⟨rfl, al1_below _ _⟩

theorem mok_nobox {a b c d : Int} {n : Nat} {f : Nat → Int} (hb : boxInB a b c d = false) : MOk a b c d n f ↔ (a = 0 ∧ b = 0 ∧ c = 0 ∧ d = 0) ∧ n = 0 :=
  ⟨fun h => (by rcases h with ⟨h0, h⟩ | ⟨_, h, _⟩; exact ⟨h, h0⟩; rw [hb] at h; cases h), fun h => .inl ⟨h.2, h.1⟩⟩
theorem mok_box {a b c d : Int} {n : Nat} {f : Nat → Int} (hb : boxInB a b c d = true) : MOk a b c d n f ↔ n = sqN a b c d ∧ ∀ i, i < n → inB (f i) 0 15 = true := by
  have h0 := (sqN_le hb).2
  refine ⟨fun h => ?_, fun h => .inr ⟨by omega, hb, h⟩⟩
  rcases h with ⟨_, rfl, rfl, rfl, rfl⟩ | ⟨_, _, h⟩
  · exact absurd hb (by decide)
  · exact h

attribute [local go_sem ↓] eqZero_yes eqZero_no in
set_option maxHeartbeats 4000000 in
set_option maxRecDepth 100000 in
theorem implMaskOk_any (a b c d : Int) (f : Nat → Int) (ao : Option Addr) (n cp : Nat) (hn : n ≤ 1048576) (w : World) (P : ∀ i, i < n → IntAt w ao i (f i)) :
    Calls Try.prog 30 #[.agg #[.int .i64 a, .int .i64 b, .int .i64 c, .int .i64 d, .slice ao n cp]] w fun r w' => r = .returned (.bool (maskOkB a b c d n f)) ∧ Below w.heap.size w w' := by
  have EB := hide (implMaskBoxOk_any a b c d)
  replace P := hide P
  have hyes : Hid (MOk a b c d n f → maskOkB a b c d n f = true) := fun h => maskOk_iff.2 h
  have hno : Hid (¬ MOk a b c d n f → maskOkB a b c d n f = false) := fun h => maskOk_no h
  have hmo0 : Hid (boxInB a b c d = false → (MOk a b c d n f ↔ (a = 0 ∧ b = 0 ∧ c = 0 ∧ d = 0) ∧ n = 0)) := fun h => mok_nobox h
  have hmo1 : Hid (boxInB a b c d = true → (MOk a b c d n f ↔ n = sqN a b c d ∧ ∀ i, i < n → inB (f i) 0 15 = true)) := fun h => mok_box h
  have hsq : Hid (boxInB a b c d = true → ((sqN a b c d : Nat) : Int) = (c - a) * (d - b) ∧ IntKind.i64.wrap (c - a) = c - a ∧ IntKind.i64.wrap (d - b) = d - b ∧ sqN a b c d ≤ 3600) := fun h => by
    have e := sqN_int h
    have e2 := (sqN_le h).1
    obtain ⟨_, _, _, _, _, _, _, _⟩ := boxIn_iff.1 h
    exact ⟨e, IntWalk.i64_in _ (by omega), IntWalk.i64_in _ (by omega), e2⟩
  generalize maskOkB a b c d n f = X at hyes hno ⊢
  generalize MOk a b c d n f = M at hyes hno hmo0 hmo1
  generalize sqN a b c d = sq at hmo1 hsq
  generalize boxInB a b c d = bi at EB hmo0 hmo1 hsq
  go_enter Try.func30, Try.ntmps30
  go_upto_region 1 with fail
  have R := hide (new_row w (.cells #[.int .i64 a, .int .i64 b, .int .i64 c, .int .i64 d, .slice ao n cp] 30))
  have HB := hide (al1_below w (.cells #[.int .i64 a, .int .i64 b, .int .i64 c, .int .i64 d, .slice ao n cp] 30))
  obtain ⟨b1, hb1⟩ : ∃ b, Hid (b = w.heap.size) := ⟨_, rfl⟩
  rw [← unhide hb1] at R
  rw [← unhide hb1]
  generalize w.alloc (.cells #[.int .i64 a, .int .i64 b, .int .i64 c, .int .i64 d, .slice ao n cp] 30) = W at R HB ⊢
  obtain ⟨r0, r1, r2, r3, r4⟩ := row5m (unhide R)
  go_wp2_with fail
  go_fit (unhide EB _)
  rintro r u1 ⟨rfl, hb⟩
  replace R := hide (row_next hb (unhide R))
  replace HB := hide (below_two (unhide HB) hb)
  clear hb r0 r1 r2 r3 r4
  obtain ⟨r0, r1, r2, r3, r4⟩ := row5m (unhide R)
  cases bi with
  | false =>
    have hM := hide (unhide hmo0 rfl)
    clear hmo0 hmo1 hsq
    by_cases hz : a = 0 ∧ b = 0 ∧ c = 0 ∧ d = 0
    · obtain ⟨rfl, rfl, rfl, rfl⟩ := hz
      by_cases h0 : n = 0
      · subst h0
        have hX := hide (unhide hyes ((unhide hM).2 ⟨⟨rfl, rfl, rfl, rfl⟩, rfl⟩))
        go_wp2_with fail
        go_ret
        exact ⟨ret_bool (unhide hX).symm, unhide HB⟩
      · have hX := hide (unhide hno (fun h => h0 ((unhide hM).1 h).2))
        have h0i : ((n : Int) == 0) = false := beq_eq_false_iff_ne.2 (by omega)
        go_wp2_with fail
        go_ret
        exact ⟨ret_bool (unhide hX).symm, unhide HB⟩
    · have hX := hide (unhide hno (fun h => hz ((unhide hM).1 h).1))
      go_wp2_with fail
      go_ret
      exact ⟨ret_bool (unhide hX).symm, unhide HB⟩
  | true =>
    have hM := hide (unhide hmo1 rfl)
    obtain ⟨s1, s2, s3, s4⟩ := unhide hsq rfl
    have ES := hide (implSquaresIn_any a b c d sq s2 s3 s1 s4)
    clear hmo0 hmo1 hsq s1 s2 s3 s4
    have hqb : Hid (((n : Int) == (sq : Int)) = decide (n = sq)) := by
      unfold Hid; rw [Bool.eq_iff_iff, beq_iff_eq, decide_eq_true_eq]; omega
    go_upto_region 3 with fail
    clear r0 r1 r2 r3 r4
    go_cut [25] (fun s u => s = .bool (!decide (n = sq)) ∧ Below u1.heap.size u1 u)
    case first =>
      obtain ⟨I, F, hI, F1, F2⟩ := kept_worlds u1
      have q0 : ∀ i, (F i).cell? ⟨b1, 0, none⟩ = some (.int .i64 a) := fun i => (row5m (row_next (F2 i) (unhide R))).1
      have q1 : ∀ i, (F i).cell? ⟨b1, 1, none⟩ = some (.int .i64 b) := fun i => (row5m (row_next (F2 i) (unhide R))).2.1
      have q2 : ∀ i, (F i).cell? ⟨b1, 2, none⟩ = some (.int .i64 c) := fun i => (row5m (row_next (F2 i) (unhide R))).2.2.1
      have q3 : ∀ i, (F i).cell? ⟨b1, 3, none⟩ = some (.int .i64 d) := fun i => (row5m (row_next (F2 i) (unhide R))).2.2.2.1
      have q4 : ∀ i, (F i).cell? ⟨b1, 4, none⟩ = some (.slice ao n cp) := fun i => (row5m (row_next (F2 i) (unhide R))).2.2.2.2
      replace F1 := hide F1
      replace F2 := hide F2
      refine wp_region_quiet_in (unhide F1) (by kernel_rfl) (by kernel_rfl) ?_
      repeat (go_big_quiet_step (first | with_reducible exact quiet_in (unhide F1) (unhide F2) (unhide ES _)))
      refine wpQuiet_nil ?_
      rintro _ ⟨i, rfl⟩
      have hF := unhide F2 i
      clear q0 q1 q2 q3 q4
      go_wp2_with fail
      go_meet
      refine ⟨?_, hF⟩
      rw [← unhide hqb]; rfl
    case rest =>
      obtain ⟨rfl, hb⟩ := hcut
      replace R := hide (row_next hb (unhide R))
      replace HB := hide (below_two (unhide HB) hb)
      clear hb hqb ES
      by_cases hq : n = sq
      · have hq1 := hide hq
        rw [decide_eq_true hq]
        clear hq
        obtain ⟨r0, r1, r2, r3, r4⟩ := row5m (unhide R)
        go_upto_region 6 with fail
        clear r0 r1 r2 r3 r4
        go_loopw [29] (fun i u => ∃ k : Nat, k ≤ n ∧ i = .int .i64 k ∧ Hid (∀ j, j < k → inB (f j) 0 15 = true) ∧ Hid (Below w.heap.size w u)) (fun i _ => n - (intOf i).toNat)
        case atStart => exact ⟨0, Nat.zero_le _, rfl, fun j hj => absurd hj (by omega), HB⟩
        case round =>
          clear HB R
          obtain ⟨k, hk, rfl, HK, HB⟩ := hrel
          by_cases hlt : k < n
          · obtain ⟨s0, o0, rfl, g0⟩ := (unhide P k hlt).next (unhide HB)
            obtain ⟨z, hz⟩ : ∃ z, Hid (f k = z) := ⟨_, rfl⟩
            rw [unhide hz] at g0
            have hki : (k : Int) < (n : Int) := by omega
            by_cases hz0 : z < 0
            · have hX := hide (unhide hno (fun h => by have := ((unhide hM).1 h).2 k hlt; rw [unhide hz, inB_true] at this; omega))
              go_wp2_with fail
              go_ret
              exact ⟨ret_bool (unhide hX).symm, unhide HB⟩
            · by_cases hz1 : 15 < z
              · have hX := hide (unhide hno (fun h => by have := ((unhide hM).1 h).2 k hlt; rw [unhide hz, inB_true] at this; omega))
                go_wp2_with fail
                go_ret
                exact ⟨ret_bool (unhide hX).symm, unhide HB⟩
              · have HK2 : Hid (∀ j, j < k + 1 → inB (f j) 0 15 = true) := bits_more (unhide HK) (by rw [unhide hz, inB_true]; omega)
                go_wp2_with fail
                go_roundw
                case rel => exact ⟨k + 1, by omega, by go_num, HK2, HB⟩
                case measure => simp [intOf]; omega
          · have hke : k = n := by omega
            subst hke
            have hki : ¬ (k : Int) < (k : Int) := by omega
            have hX := hide (unhide hyes ((unhide hM).2 ⟨unhide hq1, unhide HK⟩))
            go_wp2_with fail
            go_ret
            exact ⟨ret_bool (unhide hX).symm, unhide HB⟩
      · have hX := hide (unhide hno (fun h => hq ((unhide hM).1 h).1))
        rw [decide_eq_false hq]
        go_wp2_with fail
        go_ret
        exact ⟨ret_bool (unhide hX).symm, unhide HB⟩
end Go.Proofs.Ytmhgfikcnhoknaa

/-
  The program's rows of a mask, the bits of a square, a blank mask.
-/
namespace Go.Proofs.Ytmhgfikcnhoknaa
open Go.RowKit
set_option linter.unusedVariables false

/-- Where a stretch of a row lies among the bits. -/
theorem stretch {a b c d y x0 x1 : Int} (hb : boxInB a b c d = true) (hy : b ≤ y ∧ y < d) (hx : a ≤ x0 ∧ x0 < x1 ∧ x1 ≤ c) :
    0 ≤ placeI a b c x0 y ∧ placeI a b c x1 y = placeI a b c x0 y + (x1 - x0) ∧ placeI a b c x0 y + (x1 - x0) ≤ ((sqN a b c d : Nat) : Int) := by
  have hin : ∀ x, a ≤ x → x < c → inBoxB a b c d x y = true := fun x h1 h2 => by
    unfold inBoxB
    rw [decide_eq_true (by omega), decide_eq_true (by omega), decide_eq_true (by omega), decide_eq_true (by omega)]; rfl
  have q1 := place_bd hb (hin x0 (by omega) (by omega))
  have q2 := place_bd hb (hin (x1 - 1) (by omega) (by omega))
  have e : ∀ x, placeI a b c x y = placeI a b c x0 y + (x - x0) := fun x => by unfold placeI; omega
  have e2 := e (x1 - 1)
  exact ⟨q1.1, e x1, by omega⟩

set_option maxHeartbeats 4000000 in
set_option maxRecDepth 100000 in
theorem implRowOf_any (a b c d y x0 x1 : Int) (s o n cp : Nat) (hb : boxInB a b c d = true) (hy : b ≤ y ∧ y < d) (hx : a ≤ x0 ∧ x0 < x1 ∧ x1 ≤ c) (hn : sqN a b c d = n) (hc : n ≤ cp) (w : World) :
    Calls Try.prog 33 #[.agg #[.int .i64 a, .int .i64 b, .int .i64 c, .int .i64 d, .slice (some ⟨s, o, none⟩) n cp], .int .i64 y, .int .i64 x0, .int .i64 x1] w fun r w' => r = .returned (.slice (some ⟨s, o + (placeI a b c x0 y).toNat, none⟩) (x1 - x0).toNat (x1 - x0).toNat) ∧ Below w.heap.size w w' := by
  obtain ⟨p1, p2, p3⟩ := stretch hb hy hx
  rw [hn] at p3
  obtain ⟨z1, z2, z3, z4, z5, z6, z7, z8⟩ := boxIn_iff.1 hb
  have hn3 : n ≤ 3600 := by rw [← hn]; exact (sqN_le hb).1
  obtain ⟨M, hM⟩ : ∃ M, M = (y - b) * (c - a) := ⟨_, rfl⟩
  have e1 : placeI a b c x0 y = M + x0 - a := by unfold placeI; rw [hM]
  have e2 : placeI a b c x1 y = M + x1 - a := by unfold placeI; rw [hM]
  obtain ⟨p, hp⟩ : ∃ p : Nat, placeI a b c x0 y = (p : Int) := ⟨(placeI a b c x0 y).toNat, by omega⟩
  obtain ⟨l, hl⟩ : ∃ l : Nat, (x1 - x0) = (l : Int) := ⟨(x1 - x0).toNat, by omega⟩
  have hl2 : (x1 - x0).toNat = l := by omega
  have hp2 : (placeI a b c x0 y).toNat = p := by omega
  have hl0 : 0 < l := by omega
  have hpl : p + l ≤ n := by omega
  rw [hl2, hp2]
  have v1 : IntKind.i64.wrap (y - b) = y - b := IntWalk.i64_in _ (by omega)
  have v2 : IntKind.i64.wrap (c - a) = c - a := IntWalk.i64_in _ (by omega)
  have v3 : IntKind.i64.wrap ((y - b) * (c - a)) = M := by rw [← hM]; exact IntWalk.i64_in _ (by omega)
  have v4 : IntKind.i64.wrap (M + x0) = M + x0 := IntWalk.i64_in _ (by omega)
  have v5 : IntKind.i64.wrap (M + x1) = M + x1 := IntWalk.i64_in _ (by omega)
  have v6 : IntKind.i64.wrap (M + x0 - a) = (p : Int) := by rw [← e1, hp]; exact IntWalk.i64_in _ (by omega)
  obtain ⟨q, hq⟩ : ∃ q : Nat, q = p + l := ⟨_, rfl⟩
  have v7 : IntKind.i64.wrap (M + x1 - a) = (q : Int) := by rw [← e2, p2, hp, hl, ← Int.natCast_add, ← hq]; exact IntWalk.i64_in _ (by omega)
  have k1 : q ≤ cp := by omega
  have k2 : p ≤ q := by omega
  have k3 : Hid (q - p = l) := by unfold Hid; omega
  have k4 : 0 < q - p := by omega
  clear hq hpl hl0 hM hb hy hx hn hp hl hl2 hp2 p1 p2 p3 e1 e2 z1 z2 z3 z4 z5 z6 z7 z8
  go_enter Try.func33, Try.ntmps33
  go_wp2_with fail
  go_quiet (fail)
  go_wp2_with fail
  go_ret
  exact ⟨by rw [unhide k3]; rfl, below_drews (al1_below _ _) _⟩

/-- A mask of its own, while it is filled: its bits lie in block g. -/
def Blank (w : World) (r : Ending) (w' : World) (a b c d : Int) (N : Nat) : Prop :=
  ∃ g, r = .returned (.agg #[.int .i64 a, .int .i64 b, .int .i64 c, .int .i64 d, .slice (some ⟨g, 0, none⟩) N N]) ∧ w.heap.size ≤ g ∧ (∃ xs, w'.ownsRow g 3 1 (.slice (some ⟨g, 0, none⟩) N N) N xs ∧ IxAt xs (fun _ => 0) N) ∧ Below w.heap.size w w'
theorem made_nil (N : Nat) : IxAt (madeCells (Value.int .i64 0).cells (N * 1)).toList (fun _ => 0) N := by
  intro j hj
  simp [madeCells, Value.cells, hj, Nat.mod_one]

set_option maxHeartbeats 4000000 in
set_option maxRecDepth 100000 in
theorem implBlankMask_any (a b c d : Int) (N : Nat) (h1 : IntKind.i64.wrap (c - a) = c - a) (h2 : IntKind.i64.wrap (d - b) = d - b) (h3 : (N : Int) = (c - a) * (d - b)) (hN : N ≤ 3600) (w : World) :
    Calls Try.prog 32 #[.agg #[.int .i64 a, .int .i64 b, .int .i64 c, .int .i64 d]] w fun r w' => Blank w r w' a b c d N := by
  obtain ⟨i1, hi1, hz1, hs1, hb1⟩ := info_parts Try.info3
  have ES := hide (implSquaresIn_any a b c d N h1 h2 h3 hN)
  obtain ⟨M, hM⟩ : ∃ M, M = madeCells (Value.int .i64 0).cells (N * 1) := ⟨_, rfl⟩
  have hMx : Hid (IxAt M.toList (fun _ => 0) N) := by unfold Hid; rw [hM]; exact made_nil N
  have hMs : Hid (M.size = N * 1) := by unfold Hid; rw [hM]; exact size_madeCells _ _
  have hmk : ∀ W : World, (Instr.makeSlice 24 (.int .i64 (N : Int)) (.int .i64 (N : Int))).run Try.prog W = .ok (.slice (some ⟨W.heap.size, 0, none⟩) N N) (W.alloc (.cells M 3)) := by
    intro W
    have h := run_make (P := Try.prog) W 24 3 i1 (.int .i64 0) Try.underlying24 hi1 hz1 .i64 .i64 (N : Int) (N : Int) (by omega) (by omega) (by rw [hb1]; omega) (by omega)
    rw [hs1] at h
    simp only [Int.toNat_natCast] at h
    rw [← hM] at h
    exact h
  clear hM h1 h2 h3
  go_enter Try.func32, Try.ntmps32
  go_upto_region 1 with fail
  have R1 := hide (al2_0 w (.cells #[.int .i64 a, .int .i64 b, .int .i64 c, .int .i64 d] 28) (.cells #[.int .i64 0, .int .i64 0, .int .i64 0, .int .i64 0, .slice none 0 0] 30))
  have R2 := hide (al2_1 w (.cells #[.int .i64 a, .int .i64 b, .int .i64 c, .int .i64 d] 28) (.cells #[.int .i64 0, .int .i64 0, .int .i64 0, .int .i64 0, .slice none 0 0] 30))
  have HB := hide (al2_below w (.cells #[.int .i64 a, .int .i64 b, .int .i64 c, .int .i64 d] 28) (.cells #[.int .i64 0, .int .i64 0, .int .i64 0, .int .i64 0, .slice none 0 0] 30))
  obtain ⟨b2, hb2⟩ : ∃ b, Hid (b = w.heap.size + 1) := ⟨_, rfl⟩
  obtain ⟨b1, hb1'⟩ : ∃ b, Hid (b = w.heap.size) := ⟨_, rfl⟩
  have lz : Hid (w.heap.size ≤ b2 ∧ b1 < b2) := by unfold Hid; rw [unhide hb2, unhide hb1']; omega
  rw [← unhide hb2] at R2
  rw [← unhide hb1'] at R1
  rw [← unhide hb2, ← unhide hb1']
  generalize (w.alloc (.cells #[.int .i64 a, .int .i64 b, .int .i64 c, .int .i64 d] 28)).alloc (.cells #[.int .i64 0, .int .i64 0, .int .i64 0, .int .i64 0, .slice none 0 0] 30) = W at R1 R2 HB ⊢
  have l2 := hide (show b2 < W.heap.size from heap_lt (unhide R2))
  obtain ⟨q0, q1, q2, q3⟩ := row4 (unhide R1)
  clear hb2 hb1' hb1 hs1 hz1 hi1
  go_region_law (first | (refine step_call rfl 51 _ (by go_simp) (unhide ES _) ?_; rintro r w5 ⟨rfl, hb5⟩; refine ⟨_, rfl, ?_⟩; obtain ⟨z0, z1, z2, z3⟩ := row4 (row_next (below_undrew hb5) (unhide R1)); obtain ⟨y0, y1, y2, y3⟩ := row4 (row_next (al1_below w5 (.cells M 3)) (row_next (below_undrew hb5) (unhide R1))); obtain ⟨e0, e1, e2, e3, e4⟩ := row5m (row_next (al1_below w5 (.cells M 3)) (row_next (below_undrew hb5) (unhide R2))); obtain ⟨f0, f1, f2, f3, f4⟩ := frozen5 (row_next (al1_below w5 (.cells M 3)) (row_next (below_undrew hb5) (unhide R2))); replace hb5 := hide (below_undrew hb5)))
  all_goals
    go_wp2_with fail
    refine bodyPost_ret (v := .agg #[.int .i64 a, .int .i64 b, .int .i64 c, .int .i64 d, .slice (some ⟨w5.heap.size, 0, none⟩) N N]) (by simp [results, Try.results32, go_sem, e0, e1, e2, e3, e4]) rfl ?_
    exact ⟨w5.heap.size, rfl, by have := (unhide hb5).size; have := unhide lz; have := unhide l2; omega, ⟨_, own_put5 (World.ownsRow_lit w5 M N (Nat.le_refl _) (by unfold maxLen; omega) (unhide hMs)) (fun k hk => by simp [Value.ownBlock] at hk; have := unhide l2; have := (unhide hb5).size; omega) _ _ _ _ _, unhide hMx⟩, below_put5 (below_new _ (below_two (unhide HB) (unhide hb5)) (Nat.le_refl _)) (unhide lz).1 _ _ _ _ _⟩
end Go.Proofs.Ytmhgfikcnhoknaa

/-
  The specification's WindOf, Covers, MaskAt, CountOf.
-/
namespace Go.Proofs.Ytmhgfikcnhoknaa
open Go.RowKit
set_option linter.unusedVariables false

theorem not_near {n : Nat} {pf : Nat → Pt} {k : Nat} (hk : k < n) {x y : Int} (hz : pf k = (x, y)) (h : nearB x y = false) (p : Pt) : windP n pf p = 0 :=
  windP_no (fun h' => by have := h'.2 k hk; rw [hz] at this; dsimp only at this; rw [h] at this; cases this)
theorem up_three {a b p : Pt} : upB a b p = (decide (a.2 ≤ p.2) && (decide (p.2 < b.2) && decide (0 < sideI a b p))) := rfl

theorem tm2 (S : Int) : S.tmod 2 = 0 ↔ S % 2 = 0 :=
  ⟨fun h => Int.emod_eq_zero_of_dvd (Int.dvd_of_tmod_eq_zero h), fun h => Int.tmod_eq_zero_of_dvd (Int.dvd_of_emod_eq_zero h)⟩

end Go.Proofs.Ytmhgfikcnhoknaa

/-
  The specification's MaskAt.
-/
namespace Go.Proofs.Ytmhgfikcnhoknaa
open Go.RowKit
set_option linter.unusedVariables false

theorem maskN_bd (N : Nat) (ln : Nat → Nat) (pf : Nat → Nat → Pt) (even : Bool) (x y : Int) : ∀ k, 0 ≤ maskN N ln pf even x y k ∧ maskN N ln pf even x y k ≤ 2 ^ k - 1
  | 0 => by simp [maskN]
  | k + 1 => by
    have := maskN_bd N ln pf even x y k
    have h2 : (2 : Int) ^ (k + 1) = 2 ^ k * 2 := rfl
    simp only [maskN]; rw [h2]; split <;> omega

end Go.Proofs.Ytmhgfikcnhoknaa

/-
  The specification's MaskOf.
-/
namespace Go.Proofs.Ytmhgfikcnhoknaa
open Go.RowKit
set_option linter.unusedVariables false

/-- The bits of each square of a box. -/
noncomputable def maskF (a b c : Int) (N : Nat) (ln : Nat → Nat) (pf : Nat → Nat → Pt) (even : Bool) (i : Nat) : Int := maskP N ln pf even (sqX a c i) (sqY a b c i)
theorem sq_at {a b c : Int} {W j t : Nat} (hW : W = wideN a c) (ht : t < W) : sqX a c (j * W + t) = a + (t : Int) ∧ sqY a b c (j * W + t) = b + (j : Int) := by
  subst hW
  unfold sqX sqY
  have e1 : (j * wideN a c + t) % wideN a c = t := by rw [Nat.mul_comm, Nat.mul_add_mod]; exact Nat.mod_eq_of_lt ht
  have e2 : (j * wideN a c + t) / wideN a c = j := by
    rw [Nat.mul_comm, Nat.mul_add_div (by omega), Nat.div_eq_of_lt ht]; rfl
  rw [e1, e2]; exact ⟨rfl, rfl⟩

end Go.Proofs.Ytmhgfikcnhoknaa
