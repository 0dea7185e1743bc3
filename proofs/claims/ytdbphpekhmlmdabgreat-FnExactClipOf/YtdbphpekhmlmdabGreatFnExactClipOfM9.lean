/-
  MarkS · ClipE · OpenAgg · OpenPts · OpenPath · OpenPaint · OpenNode · LeaveK: texts of one claim, in one.
-/
import Derived.Test.YtdbphpekhmlmdabGreatFnExactClipOfM8
import Derived.Test.YtdbphpekhmlmdabGreatFnExactClipOfM5
import Derived.Test.YtdbphpekhmlmdabGreatFnExactClipOfM7
import Derived.Test.YtdbphpekhmlmdabGreatFnExactClipOfM3
import Derived.Deep.RegionHeld3
import Derived.Deep.DeepCutAuto
import Derived.Deep.DeepFit
import Derived.Test.YtdbphpekhmlmdabGreatRows
import Derived.ProofKit
import Derived.OpenShut
import Derived.ChangeArms
import Derived.Test.YtdbphpekhmlmdabGreatFnExactClipOfM1
import Derived.Deep.SlicePairs
import Derived.ChangeSlices
import Derived.Deep.Slices
import Derived.Conc.LeavingOf

/-
  The laws' markScene; lists of numbers of one's own. (By kidslaw.py.)
-/
namespace Go.Proofs.YtdbphpekhmlmdabGreat
open Go.RowKit
set_option linter.unusedVariables false

/-- A scene of one's own whose blocks lie in base .. T. -/
def ScT (w : World) (base T : Nat) (a : Option Addr) (n c : Nat) (X : Nat → Nd) (A : Nat → Na) : Prop :=
  ∃ b ys K lo, a = some ⟨b, 0, none⟩ ∧ base ≤ b ∧ w.ownsRow base 59 31 (.slice a n c) n ys ∧ NsAt ys X A n ∧ ScN w b n X A K lo ∧ lo n ≤ T
theorem ScV.tops {w : World} {base n c : Nat} {a : Option Addr} {X : Nat → Nd} {A : Nat → Na} (h : ScV w base a n c X A) : ScT w base w.heap.size a n c X A :=
  let ⟨b, ys, K, lo, h1, h2, h3, h4, h5⟩ := h; ⟨b, ys, K, lo, h1, h2, h3, h4, h5, h5.top⟩
theorem ScV.big {w : World} {base n c : Nat} {a : Option Addr} {X : Nat → Nd} {A : Nat → Na} (h : ScV w base a n c X A) : base < w.heap.size := by
  obtain ⟨b, ys, K, lo, h1, h2, h3, h4, h5⟩ := h
  have g1 := h5.first
  have g2 := lo_mono h5.five (i := 0) (j := n) (by omega) (Nat.le_refl _)
  have g3 := h5.top
  omega
theorem ScT.sc {w : World} {base T n c : Nat} {a : Option Addr} {X : Nat → Nd} {A : Nat → Na} (h : ScT w base T a n c X A) : ScV w base a n c X A :=
  let ⟨b, ys, K, lo, h1, h2, h3, h4, h5, _⟩ := h; ⟨b, ys, K, lo, h1, h2, h3, h4, h5⟩
theorem ScT.next {w u : World} {base T n c : Nat} {a : Option Addr} {X : Nat → Nd} {A : Nat → Na} (h : ScT w base T a n c X A) (hb : Below w.heap.size w u) : ScT u base T a n c X A :=
  let ⟨b, ys, K, lo, h1, h2, h3, h4, h5, h6⟩ := h; ⟨b, ys, K, lo, h1, h2, own_below h3 hb, h4, h5.next hb, h6⟩
theorem NsAt.rowD {w : World} {B b n c : Nat} {ys : List Value} {X : Nat → Nd} {A : Nat → Na} (h1 : w.ownsRow B 59 31 (.slice (some ⟨b, 0, none⟩) n c) n ys) (h2 : NsAt ys X A n) : RowD w B b n c (fun j m => (ndC (X j) (A j)).getD m undef) := by
  refine ⟨ys, h1, fun j hj m hm => h2 j hj m _ ?_⟩
  have : m < (ndC (X j) (A j)).size := hm
  rw [Array.getElem?_eq_getElem this]
  simp [Array.getD, this]
theorem FarB.pre {b T : Nat} {w u u' : World} (hb : Below w.heap.size w u) (h : FarB b T u u') : FarB b T w u' :=
  ⟨h.os.trans hb.os, h.tape.trans hb.tape, h.output.trans hb.output, Nat.le_trans hb.size h.size, fun q hq ho => (h.out q (Nat.lt_of_lt_of_le hq hb.size) ho).trans (hb.block q hq)⟩
theorem FarB.wide {b b' T : Nat} {w u : World} (h : FarB b T w u) (hb : b' ≤ b) : FarB b' T w u :=
  ⟨h.os, h.tape, h.output, h.size, fun q hq ho => h.out q hq (by omega)⟩

set_option maxHeartbeats 2000000 in
theorem markScene_far (X : Nat → Nd) (A : Nat → Na) (a : Option Addr) (n c base T : Nat) (hs : ∀ i, i < n → (X i).Small) (ht : scT X n ≤ 1048576) (w : World) (h : ScT w base T a n c X A) :
    Calls Tryz.prog 11 #[.agg #[.slice a n c], .int .i64 1] w fun r w' => r = .returned (.int .i64 ((kN X n : Nat) : Int)) ∧ FarB base T w w' := by
  go_enter Tryz.func11, Tryz.ntmps11
  go_upto_region 1 with fail
  have R := hide (new_row w (.cells #[.slice a n c] 30))
  have HB := hide (al1_below w (.cells #[.slice a n c] 30))
  replace h := hide (h.next (unhide HB))
  generalize w.alloc (.cells #[.slice a n c] 30) = W at R HB h ⊢
  obtain ⟨b1, hb1⟩ : ∃ b, Hid (b = w.heap.size) := ⟨_, rfl⟩
  rw [← unhide hb1] at R ⊢
  have c0 := row1 (unhide R)
  obtain ⟨b, ys, K, lo, rfl, h2, h3, h4, h5, h6⟩ := unhide h
  have hbT := hide (show b < T by
    have g1 := h5.first
    have g2 := lo_mono h5.five (i := 0) (j := n) (by omega) (Nat.le_refl _)
    omega)
  have E := hide (markNodeS_any X A K lo base b n c T hs ht h5.first h6 (unhide hbT) W ⟨⟨_, h4.rowD h3, fun j hj => ⟨rfl, rfl, rfl, rfl, rfl⟩⟩, ⟨_, h5.lists⟩, FarB.refl _ _ _⟩)
  replace h2 := hide h2
  clear h h3 h4 h5 h6
  go_wp2_with fail
  go_fit (unhide E)
  rintro r w1 ⟨rfl, hm⟩
  replace hm := hide hm
  clear c0 E
  go_wp2_with fail
  go_ret
  exact ⟨rfl, ((unhide hm).far.wide (unhide h2)).pre (unhide HB)⟩

end Go.Proofs.YtdbphpekhmlmdabGreat

/-
  The exact law of ClipOf. (By cliplaw.py.)
-/
namespace Go.Proofs.YtdbphpekhmlmdabGreat
open Go.RowKit
set_option linter.unusedVariables false

theorem LinesW.far {b T : Nat} {u u' : World} {base B : Nat} {v : Value} {L : List (List Pt)} (h : LinesW u base B v L) (hF : FarB b T u u') (hd : B ≤ b ∨ T ≤ base) : LinesW u' base B v L := by
  obtain ⟨vs, h1, h2, h3⟩ := h
  have ap : ∀ {e s n : Nat} {y : Value} {ys : List Value}, u.ownsRow base e s y n ys → y ∈ v :: vs → u'.ownsRow base e s y n ys := fun hy hm => hF.own hy (fun k hk => by have h4 := (hy.lt k hk).1; have h5 := h3 _ hm k hk; omega)
  exact ⟨vs, ap h1 (by simp), ⟨h2.len, fun i y l h4 h5 => ap (h2.own i y l h4 h5) (by simp [List.mem_of_getElem? h4]), h2.up⟩, h3⟩

set_option maxHeartbeats 16000000 in
set_option maxRecDepth 100000 in
theorem fnExactClipOf_walk (ao : Option Addr) (n cp : Nat) (X : Nat → Nd) (A : Nat → Na) (id : Int) (hid : (Lit.int .i64 id).wf = true) (w : World) (hw : n ≤ maxLen ∧ (∀ i, i < n → (X i).Fit) ∧ ∀ i, i < n → NrAt w ao i (X i) (A i)) :
    Calls Tryz.prog 3 #[.agg #[.slice ao n cp], .int .i64 id] w fun r w' => r = .returned (.bool true) ∧ Below w.heap.size w w' := by
  obtain ⟨hm, hf, P⟩ := hw
  have Z := hide (fun u (hu : Below w.heap.size w u) => szScene_any X A ao n cp hm hf u (fun i hi => (P i hi).next hu))
  by_cases hbig : 1048576 < scT X n
  · rw [if_pos hbig] at Z
    go_enter Tryz.func3, Tryz.ntmps3
    go_wp2_with fail
    go_fit (unhide Z _ (al1_below _ _))
    rintro r w1 ⟨rfl, hb⟩
    go_wp2_with fail
    go_ret
    exact ⟨rfl, below_two (al1_below _ _) hb⟩
  rw [if_neg hbig] at Z
  have hpos : ¬ ((1048576 : Int) - (scT X n : Int) < 0) := by omega
  have hn : n ≤ 1048576 := by unfold scT at hbig; omega
  have hs : ∀ i, i < n → (X i).Small := fun i hi => Nd.small (by have := sumT_le X hi; unfold scT at hbig; omega)
  have T := hide (fun u (hu : Below w.heap.size w u) => toScene_own X A ao n cp hn hs u (fun i hi => (P i hi).next hu))
  have S := hide (fun (u : World) (a : Option Addr) (A' : Nat → Na) (base t : Nat) (h : ScT u base t a n n X A') => specClipOf_any X A' a n n hn hs h.sc.caps id u h.sc.nodes)
  have I := hide (fun (u : World) (a : Option Addr) (A' : Nat → Na) (base t : Nat) (h : ScT u base t a n n X A') => implClipOf_any X A' a n n hn hs h.sc.caps (fun i hi => (hf i hi).idw) (fun i hi => (hf i hi).parw) id hid u h.sc.nodes)
  have EX := hide (fun (u : World) (a a' : Option Addr) (A1 A2 : Nat → Na) (base base' t : Nat) (h : ScT u base t a n n X A1) (h' : ScV u base' a' n n X A2) => eqScene_same X A1 A2 a a' n n n hn hs u h.sc.nodes h'.nodes)
  have MX := hide (fun (u : World) (a : Option Addr) (A' : Nat → Na) (base t : Nat) (h : ScT u base t a n n X A') => markScene_far X A' a n n base t hs (by omega) u h)
  obtain ⟨hLn, hLl⟩ := clip_small X n id
  generalize clipL X n id = L at S I hLn hLl
  have EL := hide (fun (a b : Option Addr) (N c d base base' : Nat) (hN : N = L.length) (w : World) h h' => eqPointSS_any L a b N c d base base' hN (by omega) (fun l hl => by have := hLl l hl; omega) w h h')
  have ML := hide (fun (a : Option Addr) (N c base : Nat) (hN : N = L.length) (w : World) hs h => markPointSS_any L a N c base hN (by omega) (fun l hl => by have := hLl l hl; omega) w hs h)
  have HL := hide (fun (a : Option Addr) (N c base : Nat) (hN : N = L.length) (w : World) h => heldPointSS_any L a N c base hN (by omega) (fun l hl => by have := hLl l hl; omega) w h)
  obtain ⟨N, hN⟩ : ∃ N, Hid (N = L.length) := ⟨_, rfl⟩
  have hqq : ¬ (((1 + preN L N : Nat) : Int) < 0) := by omega
  have hq1 : ¬ (((kN X n : Nat) : Int) < 0) := by omega
  generalize ((kN X n : Nat) : Int) = Q1 at MX hq1
  generalize hQQ : ((1 + preN L N : Nat) : Int) = Q at hqq
  replace hQQ := hide hQQ
  clear P hm hf hbig hn hs hLn hLl hid
  go_enter Tryz.func3, Tryz.ntmps3
  go_upto_region 1 with fail
  have RA := hide (new_row w (.cells #[.slice ao n cp] 24))
  have HB := hide (al1_below w (.cells #[.slice ao n cp] 24))
  have CUR := hide (show w.heap.size + 1 ≤ (w.alloc (.cells #[.slice ao n cp] 24)).heap.size by rw [al1_size]; exact Nat.le_refl _)
  obtain ⟨c0, hc0⟩ : ∃ b, b = w.heap.size + 1 := ⟨_, rfl⟩
  obtain ⟨b_RA, hbA⟩ : ∃ b, b = w.heap.size := ⟨_, rfl⟩
  have ORD := hide (show w.heap.size ≤ b_RA ∧ b_RA < c0 by omega)
  rw [← hc0] at CUR
  rw [← hbA] at RA
  rw [← hbA]
  clear hc0 hbA
  generalize w.alloc (.cells #[.slice ao n cp] 24) = W0 at *
  have q_RA_0 := row1 (unhide RA)
  go_wp2_with fail
  clear q_RA_0
  go_fit (unhide Z _ (unhide HB))
  rintro r w1 ⟨rfl, hb⟩
  replace RA := hide (row_next hb (unhide RA))
  replace CUR := hide (Nat.le_trans (unhide CUR) (Below.size hb))
  replace HB := hide (below_two (unhide HB) hb)
  clear hb
  clear Z
  have q_RA_0 := row1 (unhide RA)
  go_wp2_with fail
  clear q_RA_0
  go_fit (unhide T _ (unhide HB))
  rintro r w2 ⟨a_pt, A_pt, rfl, hp, hb⟩
  have lo0 := CUR
  have lo1 := hide (Below.size hb)
  replace RA := hide (row_next hb (unhide RA))
  replace CUR := hide (Nat.le_trans (unhide CUR) (Below.size hb))
  replace HB := hide (below_two (unhide HB) hb)
  clear hb
  obtain ⟨hi_pt, hhi⟩ : ∃ h, h = w2.heap.size := ⟨_, rfl⟩
  replace CUR := hide (show hi_pt ≤ w2.heap.size by rw [hhi]; exact Nat.le_refl _)
  have pt := hide (show ScT w2 w1.heap.size hi_pt a_pt n n X A_pt by rw [hhi]; exact hp.tops)
  have lt_pt := hide (show w1.heap.size < hi_pt by rw [hhi]; exact hp.big)
  rw [← hhi] at lo1
  clear hhi hp
  generalize w1.heap.size = lo_pt at pt lo0 lo1 lt_pt
  replace ORD := hide (And.intro (unhide ORD) (And.intro (unhide lo0) (unhide lo1)))
  clear lo0 lo1
  go_wp2_with fail
  go_fit (unhide S _ _ _ _ _ (unhide pt))
  rintro r w3 ⟨v, rfl, hl, hb⟩
  obtain ⟨a_p0, c_p0, e1⟩ := hl.form
  rw [← unhide hN] at e1
  subst e1
  have lo0 := CUR
  have lo1 := hide (Below.size hb)
  replace RA := hide (row_next hb (unhide RA))
  replace pt := hide ((unhide pt).next hb)
  replace CUR := hide (Nat.le_trans (unhide CUR) (Below.size hb))
  replace HB := hide (below_two (unhide HB) hb)
  clear hb
  obtain ⟨hi_p0, hhi⟩ : ∃ h, h = w3.heap.size := ⟨_, rfl⟩
  replace CUR := hide (show hi_p0 ≤ w3.heap.size by rw [hhi]; exact Nat.le_refl _)
  have p0 := hide (show LinesW w3 w2.heap.size hi_p0 (.slice a_p0 N c_p0) L by rw [hhi]; exact hl.bound)
  rw [← hhi] at lo1
  clear hhi hl
  generalize w2.heap.size = lo_p0 at p0 lo0 lo1
  replace ORD := hide (And.intro (unhide ORD) (And.intro (unhide lo0) (unhide lo1)))
  clear lo0 lo1
  clear pt lt_pt
  have q_RA_0 := row1 (unhide RA)
  go_wp2_with fail
  clear q_RA_0
  go_fit (unhide T _ (unhide HB))
  rintro r w4 ⟨a_pa, A_pa, rfl, hp, hb⟩
  have lo0 := CUR
  have lo1 := hide (Below.size hb)
  replace p0 := hide ((unhide p0).next hb)
  replace RA := hide (row_next hb (unhide RA))
  replace CUR := hide (Nat.le_trans (unhide CUR) (Below.size hb))
  replace HB := hide (below_two (unhide HB) hb)
  clear hb
  obtain ⟨hi_pa, hhi⟩ : ∃ h, h = w4.heap.size := ⟨_, rfl⟩
  replace CUR := hide (show hi_pa ≤ w4.heap.size by rw [hhi]; exact Nat.le_refl _)
  have pa := hide (show ScT w4 w3.heap.size hi_pa a_pa n n X A_pa by rw [hhi]; exact hp.tops)
  have lt_pa := hide (show w3.heap.size < hi_pa by rw [hhi]; exact hp.big)
  rw [← hhi] at lo1
  clear hhi hp
  generalize w3.heap.size = lo_pa at pa lo0 lo1 lt_pa
  replace ORD := hide (And.intro (unhide ORD) (And.intro (unhide lo0) (unhide lo1)))
  clear lo0 lo1
  go_upto_region 7 with fail
  have lo0 := CUR
  have R1 := hide (new_row w4 (.cells #[.slice a_pa n n] 30))
  have hb := al1_below w4 (.cells #[.slice a_pa n n] 30)
  replace p0 := hide ((unhide p0).next hb)
  replace RA := hide (row_next hb (unhide RA))
  replace pa := hide ((unhide pa).next hb)
  replace CUR := hide (Nat.le_trans (unhide CUR) (Below.size hb))
  replace HB := hide (below_two (unhide HB) hb)
  clear hb
  replace CUR := hide (show w4.heap.size + 1 ≤ (w4.alloc (.cells #[.slice a_pa n n] 30)).heap.size by rw [al1_size]; exact Nat.le_refl _)
  generalize w4.alloc (.cells #[.slice a_pa n n] 30) = W5 at *
  generalize w4.heap.size = b_R1 at R1 CUR lo0 ⊢
  replace ORD := hide (And.intro (unhide ORD) (unhide lo0))
  clear lo0
  have q_R1_0 := row1 (unhide R1)
  go_wp2_with fail
  clear q_R1_0
  go_fit (unhide I _ _ _ _ _ (unhide pa))
  rintro r w6 ⟨v, rfl, hl, hb⟩
  obtain ⟨a_pg, c_pg, e1⟩ := hl.form
  rw [← unhide hN] at e1
  subst e1
  have lo0 := CUR
  have lo1 := hide (Below.size hb)
  replace p0 := hide ((unhide p0).next hb)
  replace RA := hide (row_next hb (unhide RA))
  replace R1 := hide (row_next hb (unhide R1))
  replace pa := hide ((unhide pa).next hb)
  replace CUR := hide (Nat.le_trans (unhide CUR) (Below.size hb))
  replace HB := hide (below_two (unhide HB) hb)
  clear hb
  obtain ⟨hi_pg, hhi⟩ : ∃ h, h = w6.heap.size := ⟨_, rfl⟩
  replace CUR := hide (show hi_pg ≤ w6.heap.size by rw [hhi]; exact Nat.le_refl _)
  have pg := hide (show LinesW w6 W5.heap.size hi_pg (.slice a_pg N c_pg) L by rw [hhi]; exact hl.bound)
  rw [← hhi] at lo1
  clear hhi hl
  generalize W5.heap.size = lo_pg at pg lo0 lo1
  replace ORD := hide (And.intro (unhide ORD) (And.intro (unhide lo0) (unhide lo1)))
  clear lo0 lo1
  go_wp2_with fail
  go_fit (unhide EL _ _ _ _ _ _ _ (unhide hN) _ (unhide pg).v (unhide p0).v)
  rintro r w7 ⟨rfl, hb⟩
  replace p0 := hide ((unhide p0).next hb)
  replace pg := hide ((unhide pg).next hb)
  replace RA := hide (row_next hb (unhide RA))
  replace R1 := hide (row_next hb (unhide R1))
  replace pa := hide ((unhide pa).next hb)
  replace CUR := hide (Nat.le_trans (unhide CUR) (Below.size hb))
  replace HB := hide (below_two (unhide HB) hb)
  clear hb
  go_wp2_with fail
  have k0 := hide (show ∀ u, Below w7.heap.size w7 u → (u.cell? ⟨b_R1, 0, none⟩ = some (.slice a_pa n n) ∧ u.cell? ⟨b_RA, 0, none⟩ = some (.slice ao n cp) ∧ Below w7.heap.size w7 u) from fun u h => ⟨(row1 (row_next h (unhide R1))), (row1 (row_next h (unhide RA))), h⟩)
  have kS := hide (show ∀ u, (u.cell? ⟨b_R1, 0, none⟩ = some (.slice a_pa n n) ∧ u.cell? ⟨b_RA, 0, none⟩ = some (.slice ao n cp) ∧ Below w7.heap.size w7 u) → Below w7.heap.size w7 u from fun u h => h.2.2)
  have k00 := hide (unhide k0 _ (Below.refl _ _).drew)
  have hd : w7.drew.heap.size = w7.heap.size := rfl
  go_cut [35] (fun s u => s = .bool false ∧ Below w7.heap.size w7 u)
  case first =>
    go_region_held3 (fun u => u.cell? ⟨b_R1, 0, none⟩ = some (.slice a_pa n n) ∧ u.cell? ⟨b_RA, 0, none⟩ = some (.slice ao n cp) ∧ Below w7.heap.size w7 u) ((first | with_reducible exact unhide k00 | (refine unhide k0 _ ?_; first | with_reducible assumption | (with_reducible refine below_new _ ?_ (Nat.le_refl _); with_reducible assumption) | (with_reducible refine Below.drew ?_; with_reducible exact below_new _ (Below.refl _ _) (Nat.le_refl _)) | (with_reducible refine below_put5 ?_ ?_ _ _ _ _ _ <;> first | with_reducible assumption | omega)))) (first | (go_at_call 7; go_fit (unhide T _ (below_two (unhide HB) (unhide kS _ (by with_reducible assumption)))); rintro r y1 ⟨s1, A1, rfl, hpv, hb1⟩; have hW1 := below_after hb1 (unhide kS _ (by with_reducible assumption)) (Nat.le_refl _); have hsz := hb1.size; have hge := hW1.size; have pv := hide hpv; clear hpv) | (go_at_call 10; (first | go_fit (unhide EX _ _ _ _ _ _ _ _ ((unhide pa).next (unhide kS _ (by with_reducible assumption))) (unhide pv))); rintro r y1 ⟨rfl, hb1⟩; have hW1 := below_after hb1 (unhide kS _ (by with_reducible assumption)) (Nat.le_refl _); have hsz := hb1.size; have hge := hW1.size))
    all_goals
      go_wp2_with fail
      go_meet
      exact ⟨rfl, unhide kS _ (by with_reducible assumption)⟩
  case rest =>
    obtain ⟨rfl, hb⟩ := hcut
    replace p0 := hide ((unhide p0).next hb)
    replace pg := hide ((unhide pg).next hb)
    replace RA := hide (row_next hb (unhide RA))
    replace R1 := hide (row_next hb (unhide R1))
    replace pa := hide ((unhide pa).next hb)
    replace CUR := hide (Nat.le_trans (unhide CUR) (Below.size hb))
    replace HB := hide (below_two (unhide HB) hb)
    clear hb k0 kS k00 hd
    generalize wc = X60 at *
    have q_R1_0 := row1 (unhide R1)
    go_wp2_with fail
    clear q_R1_0
    go_fit (unhide MX _ _ _ _ _ (unhide pa))
    rintro r w8 ⟨rfl, hF⟩
    have o := unhide ORD
    replace RA := hide ((hF.out b_RA (heap_lt (unhide RA)) (by omega)).trans (unhide RA))
    replace R1 := hide ((hF.out b_R1 (heap_lt (unhide R1)) (by omega)).trans (unhide R1))
    replace p0 := hide ((unhide p0).far hF (by omega))
    replace pg := hide ((unhide pg).far hF (by omega))
    replace HB := hide ((unhide HB).trans (hF.below (by omega) (unhide HB).size))
    replace CUR := hide (Nat.le_trans (unhide CUR) hF.size)
    clear hF o
    clear pa lt_pa
    go_wp2_with fail
    go_fit (unhide EL _ _ _ _ _ _ _ (unhide hN) _ (unhide pg).v (unhide p0).v)
    rintro r w9 ⟨rfl, hb⟩
    replace p0 := hide ((unhide p0).next hb)
    replace pg := hide ((unhide pg).next hb)
    replace RA := hide (row_next hb (unhide RA))
    replace R1 := hide (row_next hb (unhide R1))
    replace CUR := hide (Nat.le_trans (unhide CUR) (Below.size hb))
    replace HB := hide (below_two (unhide HB) hb)
    clear hb
    go_wp2_with fail
    have o := unhide ORD
    have o2 := unhide CUR
    go_fit (unhide ML _ _ _ _ (unhide hN) _ (by omega) (unhide pg).v)
    rintro r w10 ⟨rfl, hm, hb⟩
    rw [unhide hQQ]
    replace RA := hide ((hb.block b_RA (by omega)).trans (unhide RA))
    replace R1 := hide ((hb.block b_R1 (by omega)).trans (unhide R1))
    replace p0 := hide ((unhide p0).part hb (by omega))
    replace HB := hide ((unhide HB).trans (hb.mono (by omega)))
    replace CUR := hide (Nat.le_trans (unhide CUR) (Below.size hb))
    have m_pg := hide hm
    clear hm hb o o2 pg
    go_wp2_with fail
    go_fit (unhide HL _ _ _ _ (unhide hN) _ (unhide m_pg))
    rintro r w11 ⟨rfl, hb⟩
    replace p0 := hide ((unhide p0).next hb)
    replace m_pg := hide ((unhide m_pg).next hb)
    replace RA := hide (row_next hb (unhide RA))
    replace R1 := hide (row_next hb (unhide R1))
    replace CUR := hide (Nat.le_trans (unhide CUR) (Below.size hb))
    replace HB := hide (below_two (unhide HB) hb)
    clear hb
    rw [unhide hQQ]
    have q_RA_0 := row1 (unhide RA)
    go_wp2_with fail
    clear q_RA_0
    go_fit (unhide T _ (unhide HB))
    rintro r w12 ⟨a_pu, A_pu, rfl, hp, hb⟩
    have lo0 := CUR
    have lo1 := hide (Below.size hb)
    replace p0 := hide ((unhide p0).next hb)
    replace m_pg := hide ((unhide m_pg).next hb)
    replace RA := hide (row_next hb (unhide RA))
    replace R1 := hide (row_next hb (unhide R1))
    replace CUR := hide (Nat.le_trans (unhide CUR) (Below.size hb))
    replace HB := hide (below_two (unhide HB) hb)
    clear hb
    obtain ⟨hi_pu, hhi⟩ : ∃ h, h = w12.heap.size := ⟨_, rfl⟩
    replace CUR := hide (show hi_pu ≤ w12.heap.size by rw [hhi]; exact Nat.le_refl _)
    have pu := hide (show ScT w12 w11.heap.size hi_pu a_pu n n X A_pu by rw [hhi]; exact hp.tops)
    have lt_pu := hide (show w11.heap.size < hi_pu by rw [hhi]; exact hp.big)
    rw [← hhi] at lo1
    clear hhi hp
    generalize w11.heap.size = lo_pu at pu lo0 lo1 lt_pu
    replace ORD := hide (And.intro (unhide ORD) (And.intro (unhide lo0) (unhide lo1)))
    clear lo0 lo1
    go_wp2_with fail
    go_fit (unhide I _ _ _ _ _ (unhide pu))
    rintro r w13 ⟨v, rfl, hl, hb⟩
    obtain ⟨a_ph, c_ph, e1⟩ := hl.form
    rw [← unhide hN] at e1
    subst e1
    have lo0 := CUR
    have lo1 := hide (Below.size hb)
    replace p0 := hide ((unhide p0).next hb)
    replace m_pg := hide ((unhide m_pg).next hb)
    replace RA := hide (row_next hb (unhide RA))
    replace R1 := hide (row_next hb (unhide R1))
    replace pu := hide ((unhide pu).next hb)
    replace CUR := hide (Nat.le_trans (unhide CUR) (Below.size hb))
    replace HB := hide (below_two (unhide HB) hb)
    clear hb
    obtain ⟨hi_ph, hhi⟩ : ∃ h, h = w13.heap.size := ⟨_, rfl⟩
    replace CUR := hide (show hi_ph ≤ w13.heap.size by rw [hhi]; exact Nat.le_refl _)
    have ph := hide (show LinesW w13 w12.heap.size hi_ph (.slice a_ph N c_ph) L by rw [hhi]; exact hl.bound)
    rw [← hhi] at lo1
    clear hhi hl
    generalize w12.heap.size = lo_ph at ph lo0 lo1
    replace ORD := hide (And.intro (unhide ORD) (And.intro (unhide lo0) (unhide lo1)))
    clear lo0 lo1
    clear pu lt_pu
    go_wp2_with fail
    go_fit (unhide EL _ _ _ _ _ _ _ (unhide hN) _ (unhide ph).v (unhide p0).v)
    rintro r w14 ⟨rfl, hb⟩
    replace p0 := hide ((unhide p0).next hb)
    replace ph := hide ((unhide ph).next hb)
    replace m_pg := hide ((unhide m_pg).next hb)
    replace RA := hide (row_next hb (unhide RA))
    replace R1 := hide (row_next hb (unhide R1))
    replace CUR := hide (Nat.le_trans (unhide CUR) (Below.size hb))
    replace HB := hide (below_two (unhide HB) hb)
    clear hb
    go_wp2_with fail
    go_fit (unhide HL _ _ _ _ (unhide hN) _ (unhide m_pg))
    rintro r w15 ⟨rfl, hb⟩
    replace p0 := hide ((unhide p0).next hb)
    replace ph := hide ((unhide ph).next hb)
    replace m_pg := hide ((unhide m_pg).next hb)
    replace RA := hide (row_next hb (unhide RA))
    replace R1 := hide (row_next hb (unhide R1))
    replace CUR := hide (Nat.le_trans (unhide CUR) (Below.size hb))
    replace HB := hide (below_two (unhide HB) hb)
    clear hb
    rw [unhide hQQ]
    go_wp2_with fail
    go_ret
    exact ⟨rfl, unhide HB⟩
end Go.Proofs.YtdbphpekhmlmdabGreat

/-
  Flat structs of whole numbers that came in: their cells written out.
-/
namespace Go.Proofs.YtdbphpekhmlmdabGreat
open Go.ChangeShapes Go.WideShapes

theorem array_2 {α : Type} {cs : Array α} (h : cs.size = 2) : ∃ c0 c1, cs = #[c0, c1] := by
  obtain ⟨l⟩ := cs
  match l, h with
  | [c0, c1], _ => exact ⟨c0, c1, rfl⟩

theorem open_struct2 {H : Type} {enc : TypeId × Value → H} {P : Program} {w : World} {r : Reach} {base b0 : Nat} {sp : Nat → Bool} {held : Bool} {t e : TypeId} {f0 f1 : Field} {v : Value} {d : DataW H} {p : List MemPlace}
    (hs : P.underlying t = some (.struct #[f0, f1])) (hf : [f0, f1].map (fun f => (f.offset, f.type)) = [(0, e), (1, e)]) (he : P.underlying e = some (.int .i64)) (hce : P.cellsOf e = 1) (hC : P.cellsOf t = 2)
    (hv : Value.okWide P w r b0 t v) (h : DataW.Trod enc P w base sp held t v d p) :
    ∃ a0 a1 : Int, v = .agg #[.int .i64 a0, .int .i64 a1] ∧ (Lit.int .i64 a0).wf = true ∧ (Lit.int .i64 a1).wf = true := by
  obtain ⟨cs, rfl, hsz⟩ := okWide_struct hs hv
  obtain ⟨c0, c1, rfl⟩ := array_2 (hsz.trans hC)
  obtain ⟨fuel, hh⟩ := h
  obtain ⟨xs, m, _, _, _, hl, hx⟩ := DataW.trod_struct hs hh
  have hl' : xs.length = 2 := hl
  simp only [List.map_cons, List.map_nil, List.cons.injEq, Prod.mk.injEq, and_true] at hf
  obtain ⟨⟨o0, t0⟩, ⟨o1, t1⟩⟩ := hf
  have g0 := hx 0 f0 rfl
  rw [o0, t0, hce, List.getElem?_eq_getElem (by omega)] at g0
  obtain ⟨z0, e0, _, w0⟩ := DataW.trod_int he g0
  simp [Value.cells] at e0
  have g1 := hx 1 f1 rfl
  rw [o1, t1, hce, List.getElem?_eq_getElem (by omega)] at g1
  obtain ⟨z1, e1, _, w1⟩ := DataW.trod_int he g1
  simp [Value.cells] at e1
  exact ⟨z0, z1, by rw [e0, e1], w0, w1⟩

theorem array_4 {α : Type} {cs : Array α} (h : cs.size = 4) : ∃ c0 c1 c2 c3, cs = #[c0, c1, c2, c3] := by
  obtain ⟨l⟩ := cs
  match l, h with
  | [c0, c1, c2, c3], _ => exact ⟨c0, c1, c2, c3, rfl⟩

theorem open_struct4 {H : Type} {enc : TypeId × Value → H} {P : Program} {w : World} {r : Reach} {base b0 : Nat} {sp : Nat → Bool} {held : Bool} {t e : TypeId} {f0 f1 f2 f3 : Field} {v : Value} {d : DataW H} {p : List MemPlace}
    (hs : P.underlying t = some (.struct #[f0, f1, f2, f3])) (hf : [f0, f1, f2, f3].map (fun f => (f.offset, f.type)) = [(0, e), (1, e), (2, e), (3, e)]) (he : P.underlying e = some (.int .i64)) (hce : P.cellsOf e = 1) (hC : P.cellsOf t = 4)
    (hv : Value.okWide P w r b0 t v) (h : DataW.Trod enc P w base sp held t v d p) :
    ∃ a0 a1 a2 a3 : Int, v = .agg #[.int .i64 a0, .int .i64 a1, .int .i64 a2, .int .i64 a3] ∧ (Lit.int .i64 a0).wf = true ∧ (Lit.int .i64 a1).wf = true ∧ (Lit.int .i64 a2).wf = true ∧ (Lit.int .i64 a3).wf = true := by
  obtain ⟨cs, rfl, hsz⟩ := okWide_struct hs hv
  obtain ⟨c0, c1, c2, c3, rfl⟩ := array_4 (hsz.trans hC)
  obtain ⟨fuel, hh⟩ := h
  obtain ⟨xs, m, _, _, _, hl, hx⟩ := DataW.trod_struct hs hh
  have hl' : xs.length = 4 := hl
  simp only [List.map_cons, List.map_nil, List.cons.injEq, Prod.mk.injEq, and_true] at hf
  obtain ⟨⟨o0, t0⟩, ⟨o1, t1⟩, ⟨o2, t2⟩, ⟨o3, t3⟩⟩ := hf
  have g0 := hx 0 f0 rfl
  rw [o0, t0, hce, List.getElem?_eq_getElem (by omega)] at g0
  obtain ⟨z0, e0, _, w0⟩ := DataW.trod_int he g0
  simp [Value.cells] at e0
  have g1 := hx 1 f1 rfl
  rw [o1, t1, hce, List.getElem?_eq_getElem (by omega)] at g1
  obtain ⟨z1, e1, _, w1⟩ := DataW.trod_int he g1
  simp [Value.cells] at e1
  have g2 := hx 2 f2 rfl
  rw [o2, t2, hce, List.getElem?_eq_getElem (by omega)] at g2
  obtain ⟨z2, e2, _, w2⟩ := DataW.trod_int he g2
  simp [Value.cells] at e2
  have g3 := hx 3 f3 rfl
  rw [o3, t3, hce, List.getElem?_eq_getElem (by omega)] at g3
  obtain ⟨z3, e3, _, w3⟩ := DataW.trod_int he g3
  simp [Value.cells] at e3
  exact ⟨z0, z1, z2, z3, by rw [e0, e1, e2, e3], w0, w1, w2, w3⟩

theorem array_6 {α : Type} {cs : Array α} (h : cs.size = 6) : ∃ c0 c1 c2 c3 c4 c5, cs = #[c0, c1, c2, c3, c4, c5] := by
  obtain ⟨l⟩ := cs
  match l, h with
  | [c0, c1, c2, c3, c4, c5], _ => exact ⟨c0, c1, c2, c3, c4, c5, rfl⟩

theorem open_struct6 {H : Type} {enc : TypeId × Value → H} {P : Program} {w : World} {r : Reach} {base b0 : Nat} {sp : Nat → Bool} {held : Bool} {t e : TypeId} {f0 f1 f2 f3 f4 f5 : Field} {v : Value} {d : DataW H} {p : List MemPlace}
    (hs : P.underlying t = some (.struct #[f0, f1, f2, f3, f4, f5])) (hf : [f0, f1, f2, f3, f4, f5].map (fun f => (f.offset, f.type)) = [(0, e), (1, e), (2, e), (3, e), (4, e), (5, e)]) (he : P.underlying e = some (.int .i64)) (hce : P.cellsOf e = 1) (hC : P.cellsOf t = 6)
    (hv : Value.okWide P w r b0 t v) (h : DataW.Trod enc P w base sp held t v d p) :
    ∃ a0 a1 a2 a3 a4 a5 : Int, v = .agg #[.int .i64 a0, .int .i64 a1, .int .i64 a2, .int .i64 a3, .int .i64 a4, .int .i64 a5] ∧ (Lit.int .i64 a0).wf = true ∧ (Lit.int .i64 a1).wf = true ∧ (Lit.int .i64 a2).wf = true ∧ (Lit.int .i64 a3).wf = true ∧ (Lit.int .i64 a4).wf = true ∧ (Lit.int .i64 a5).wf = true := by
  obtain ⟨cs, rfl, hsz⟩ := okWide_struct hs hv
  obtain ⟨c0, c1, c2, c3, c4, c5, rfl⟩ := array_6 (hsz.trans hC)
  obtain ⟨fuel, hh⟩ := h
  obtain ⟨xs, m, _, _, _, hl, hx⟩ := DataW.trod_struct hs hh
  have hl' : xs.length = 6 := hl
  simp only [List.map_cons, List.map_nil, List.cons.injEq, Prod.mk.injEq, and_true] at hf
  obtain ⟨⟨o0, t0⟩, ⟨o1, t1⟩, ⟨o2, t2⟩, ⟨o3, t3⟩, ⟨o4, t4⟩, ⟨o5, t5⟩⟩ := hf
  have g0 := hx 0 f0 rfl
  rw [o0, t0, hce, List.getElem?_eq_getElem (by omega)] at g0
  obtain ⟨z0, e0, _, w0⟩ := DataW.trod_int he g0
  simp [Value.cells] at e0
  have g1 := hx 1 f1 rfl
  rw [o1, t1, hce, List.getElem?_eq_getElem (by omega)] at g1
  obtain ⟨z1, e1, _, w1⟩ := DataW.trod_int he g1
  simp [Value.cells] at e1
  have g2 := hx 2 f2 rfl
  rw [o2, t2, hce, List.getElem?_eq_getElem (by omega)] at g2
  obtain ⟨z2, e2, _, w2⟩ := DataW.trod_int he g2
  simp [Value.cells] at e2
  have g3 := hx 3 f3 rfl
  rw [o3, t3, hce, List.getElem?_eq_getElem (by omega)] at g3
  obtain ⟨z3, e3, _, w3⟩ := DataW.trod_int he g3
  simp [Value.cells] at e3
  have g4 := hx 4 f4 rfl
  rw [o4, t4, hce, List.getElem?_eq_getElem (by omega)] at g4
  obtain ⟨z4, e4, _, w4⟩ := DataW.trod_int he g4
  simp [Value.cells] at e4
  have g5 := hx 5 f5 rfl
  rw [o5, t5, hce, List.getElem?_eq_getElem (by omega)] at g5
  obtain ⟨z5, e5, _, w5⟩ := DataW.trod_int he g5
  simp [Value.cells] at e5
  exact ⟨z0, z1, z2, z3, z4, z5, by rw [e0, e1, e2, e3, e4, e5], w0, w1, w2, w3, w4, w5⟩
end Go.Proofs.YtdbphpekhmlmdabGreat

/-
  Lists of points that came in: their cells written out.
-/
namespace Go.Proofs.YtdbphpekhmlmdabGreat
open Go.ChangeShapes Go.WideShapes Go.RowKit

theorem open_points {H : Type} {enc : TypeId × Value → H} {P : Program} {w : World} {base : Nat} {sp : Nat → Bool} {held : Bool} {t e : TypeId} {f0 f1 : Field} {a : Option Addr} {n c fuel : Nat} {x : DataW H × List MemPlace}
    (ht : P.underlying t = some (.slice e)) (he : P.underlying e = some (.struct #[f0, f1])) (ce : P.cellsOf e = 2) (o0 : f0.offset = 0) (o1 : f1.offset = 1) (c0 : P.cellsOf f0.type = 1) (c1 : P.cellsOf f1.type = 1)
    (k0 : P.underlying f0.type = some (.int .i64)) (k1 : P.underlying f1.type = some (.int .i64))
    (h : DataW.trod enc P w base sp held fuel t [.slice a n c] = some x) :
    ∃ f : Nat → Int × Int, n ≤ maxLen ∧ ∀ i, i < n → PtArg w a i (f i) := by
  rcases Go.Deep.open_slice_pairs ht he ce o0 o1 c0 c1 h with ⟨hcs, _⟩ | ⟨b, len, cap, m, q, V0, V1, D0, D1, P0, P1, hcs, _, hl, hm, hmm, _, hx⟩
  · simp at hcs
    obtain ⟨rfl, rfl, rfl⟩ := hcs
    exact ⟨fun _ => (0, 0), by unfold maxLen; omega, fun i hi => absurd hi (by omega)⟩
  · simp at hcs
    obtain ⟨rfl, rfl, rfl⟩ := hcs
    have hnm : n ≤ m := by rw [hmm]; split <;> omega
    have each : ∀ i, i < n → ∃ p : Int × Int, PtArg w (some b) i p := by
      intro i hi
      obtain ⟨g0, g1, r0, r1⟩ := hx i (by omega)
      obtain ⟨z0, e0, _, _⟩ := DataW.trod_int k0 r0
      obtain ⟨z1, e1, _, _⟩ := DataW.trod_int k1 r1
      simp at e0 e1
      rw [e0] at g0
      rw [e1] at g1
      obtain ⟨bb, off, spot⟩ := b
      have hs := World.cell?_spot (hx 0 (by omega)).1
      have hspot : spot = none := by simpa [Addr.add] using hs
      subst hspot
      refine ⟨(z0, z1), bb, off, rfl, ?_, ?_⟩
      · by_cases hi0 : i = 0
        · subst hi0; simpa [Addr.add] using g0
        · have : i * 2 ≠ 0 := by omega
          rw [Addr.add, if_neg this] at g0; exact g0
      · simpa [Addr.add, Nat.add_assoc] using g1
    obtain ⟨f, hf⟩ := Go.Deep.choose_lt each
    exact ⟨f, by omega, hf⟩
end Go.Proofs.YtdbphpekhmlmdabGreat

/-
  Paths that came in: their cells written out.
-/
namespace Go.Proofs.YtdbphpekhmlmdabGreat
open Go.ChangeShapes Go.WideShapes Go.RowKit

theorem spot_none {w : World} {b : Addr} {v : Value} (h : w.cell? (b.add 0) = some v) : b.spot = none := by
  have hs := World.cell?_spot h
  simpa [Addr.add] using hs

theorem open_ilist {H : Type} {enc : TypeId × Value → H} {P : Program} {w : World} {base : Nat} {sp : Nat → Bool} {held : Bool} {t e : TypeId} {c : Value} {fuel : Nat} {x : DataW H × List MemPlace}
    (ht : P.underlying t = some (.slice e)) (he : P.underlying e = some (.int .i64)) (hc : P.cellsOf e = 1) (h : DataW.trod enc P w base sp held fuel t [c] = some x) :
    ∃ (a : Option Addr) (n cap : Nat) (f : Nat → Int), c = .slice a n cap ∧ n ≤ maxLen ∧ ∀ i, i < n → IntAt w a i (f i) := by
  rcases open_ints ht he hc h with ⟨hcs, _⟩ | ⟨b, l, cap, zs, hcs, _, hl, hm, hz, _, hcell, hwz⟩
  · simp at hcs
    exact ⟨none, 0, 0, fun _ => 0, hcs, by unfold maxLen; omega, fun i hi => absurd hi (by omega)⟩
  · simp at hcs
    have hlz : l ≤ zs.length := by rw [hz]; split <;> omega
    refine ⟨some b, l, cap, fun i => zs.getD i 0, hcs, by omega, fun i hi => ?_⟩
    have h0 := spot_none (hcell 0 (by omega))
    obtain ⟨bb, off, spot⟩ := b
    dsimp only at h0
    subst h0
    have hi' := hcell i (by omega)
    have hadd : (⟨bb, off, none⟩ : Addr).add i = ⟨bb, off + i, none⟩ := by unfold Addr.add; split <;> simp_all
    rw [hadd] at hi'
    exact ⟨bb, off, rfl, hi'⟩

theorem open_plist {H : Type} {enc : TypeId × Value → H} {P : Program} {w : World} {base : Nat} {sp : Nat → Bool} {held : Bool} {t e : TypeId} {f0 f1 : Field} {c : Value} {fuel : Nat} {x : DataW H × List MemPlace}
    (ht : P.underlying t = some (.slice e)) (he : P.underlying e = some (.struct #[f0, f1])) (ce : P.cellsOf e = 2) (o0 : f0.offset = 0) (o1 : f1.offset = 1) (c0 : P.cellsOf f0.type = 1) (c1 : P.cellsOf f1.type = 1)
    (k0 : P.underlying f0.type = some (.int .i64)) (k1 : P.underlying f1.type = some (.int .i64))
    (h : DataW.trod enc P w base sp held fuel t [c] = some x) :
    ∃ (a : Option Addr) (n cap : Nat) (f : Nat → Int × Int), c = .slice a n cap ∧ n ≤ maxLen ∧ ∀ i, i < n → PtArg w a i (f i) := by
  rcases Go.Deep.open_slice_pairs ht he ce o0 o1 c0 c1 h with ⟨hcs, _⟩ | ⟨b, len, cap, m, q, V0, V1, D0, D1, P0, P1, hcs, _, hl, hm, hmm, _, hx⟩
  · simp at hcs
    subst hcs
    obtain ⟨f, h1, h2⟩ := open_points ht he ce o0 o1 c0 c1 k0 k1 h
    exact ⟨_, _, _, f, rfl, h1, h2⟩
  · simp at hcs
    subst hcs
    obtain ⟨f, h1, h2⟩ := open_points ht he ce o0 o1 c0 c1 k0 k1 h
    exact ⟨_, _, _, f, rfl, h1, h2⟩

theorem open_path {H : Type} {enc : TypeId × Value → H} {P : Program} {w : World} {r : Reach} {base b0 : Nat} {sp : Nat → Bool} {held : Bool} {t t0 t1 e0 e1 : TypeId} {f0 f1 g0 g1 : Field} {v : Value} {d : DataW H} {p : List MemPlace}
    (hs : P.underlying t = some (.struct #[f0, f1])) (hf : [f0, f1].map (fun f => (f.offset, f.type)) = [(0, t0), (1, t1)]) (hc0 : P.cellsOf t0 = 1) (hc1 : P.cellsOf t1 = 1) (hC : P.cellsOf t = 2)
    (s0 : P.underlying t0 = some (.slice e0)) (s1 : P.underlying t1 = some (.slice e1)) (i0 : P.underlying e0 = some (.int .i64)) (ce0 : P.cellsOf e0 = 1)
    (he : P.underlying e1 = some (.struct #[g0, g1])) (ce : P.cellsOf e1 = 2) (o0 : g0.offset = 0) (o1 : g1.offset = 1) (c0 : P.cellsOf g0.type = 1) (c1 : P.cellsOf g1.type = 1) (k0 : P.underlying g0.type = some (.int .i64)) (k1 : P.underlying g1.type = some (.int .i64))
    (hv : Value.okWide P w r b0 t v) (h : DataW.Trod enc P w base sp held t v d p) :
    ∃ (a : Option Addr) (n c : Nat) (vf : Nat → Int) (b : Option Addr) (m d : Nat) (pf : Nat → Int × Int), v = .agg #[.slice a n c, .slice b m d] ∧ n ≤ maxLen ∧ (∀ i, i < n → IntAt w a i (vf i)) ∧ m ≤ maxLen ∧ ∀ i, i < m → PtArg w b i (pf i) := by
  obtain ⟨cs, rfl, hsz⟩ := okWide_struct hs hv
  obtain ⟨x0, x1, rfl⟩ := array_2 (hsz.trans hC)
  obtain ⟨fuel, hh⟩ := h
  obtain ⟨xs, m', _, _, _, hl, hx⟩ := DataW.trod_struct hs hh
  have hl' : xs.length = 2 := hl
  simp only [List.map_cons, List.map_nil, List.cons.injEq, Prod.mk.injEq, and_true] at hf
  obtain ⟨⟨q0, r0⟩, ⟨q1, r1⟩⟩ := hf
  have y0 := hx 0 f0 rfl
  rw [q0, r0, hc0, List.getElem?_eq_getElem (by omega)] at y0
  have y1 := hx 1 f1 rfl
  rw [q1, r1, hc1, List.getElem?_eq_getElem (by omega)] at y1
  simp [Value.cells] at y0 y1
  obtain ⟨a, n, c, vf, rfl, h1, h2⟩ := open_ilist s0 i0 ce0 y0
  obtain ⟨b, m, d, pf, rfl, h3, h4⟩ := open_plist s1 he ce o0 o1 c0 c1 k0 k1 y1
  exact ⟨a, n, c, vf, b, m, d, pf, rfl, h1, h2, h3, h4⟩
end Go.Proofs.YtdbphpekhmlmdabGreat

/-
  Paints that came in: their cells written out.
-/
namespace Go.Proofs.YtdbphpekhmlmdabGreat
open Go.ChangeShapes Go.WideShapes

theorem array_13 {α : Type} {cs : Array α} (h : cs.size = 13) : ∃ c0 c1 c2 c3 c4 c5 c6 c7 c8 c9 c10 c11 c12, cs = #[c0, c1, c2, c3, c4, c5, c6, c7, c8, c9, c10, c11, c12] := by
  obtain ⟨l⟩ := cs
  match l, h with
  | [c0, c1, c2, c3, c4, c5, c6, c7, c8, c9, c10, c11, c12], _ => exact ⟨c0, c1, c2, c3, c4, c5, c6, c7, c8, c9, c10, c11, c12, rfl⟩

theorem open_quad {H : Type} {enc : TypeId × Value → H} {P : Program} {w : World} {base : Nat} {sp : Nat → Bool} {held : Bool} {t e : TypeId} {f0 f1 f2 f3 : Field} {c0 c1 c2 c3 : Value} {fuel : Nat} {x : DataW H × List MemPlace}
    (hs : P.underlying t = some (.struct #[f0, f1, f2, f3])) (hf : [f0, f1, f2, f3].map (fun f => (f.offset, f.type)) = [(0, e), (1, e), (2, e), (3, e)]) (he : P.underlying e = some (.int .i64)) (hce : P.cellsOf e = 1)
    (h : DataW.trod enc P w base sp held fuel t [c0, c1, c2, c3] = some x) :
    ∃ a0 a1 a2 a3 : Int, c0 = .int .i64 a0 ∧ c1 = .int .i64 a1 ∧ c2 = .int .i64 a2 ∧ c3 = .int .i64 a3 ∧ (Lit.int .i64 a0).wf = true ∧ (Lit.int .i64 a1).wf = true ∧ (Lit.int .i64 a2).wf = true ∧ (Lit.int .i64 a3).wf = true := by
  obtain ⟨xs, m, _, _, _, hl, hx⟩ := DataW.trod_struct hs h
  have hl' : xs.length = 4 := hl
  simp only [List.map_cons, List.map_nil, List.cons.injEq, Prod.mk.injEq, and_true] at hf
  obtain ⟨⟨o0, t0⟩, ⟨o1, t1⟩, ⟨o2, t2⟩, ⟨o3, t3⟩⟩ := hf
  have g0 := hx 0 f0 rfl
  rw [o0, t0, hce, List.getElem?_eq_getElem (by omega)] at g0
  obtain ⟨z0, e0, _, w0⟩ := DataW.trod_int he g0
  simp at e0
  have g1 := hx 1 f1 rfl
  rw [o1, t1, hce, List.getElem?_eq_getElem (by omega)] at g1
  obtain ⟨z1, e1, _, w1⟩ := DataW.trod_int he g1
  simp at e1
  have g2 := hx 2 f2 rfl
  rw [o2, t2, hce, List.getElem?_eq_getElem (by omega)] at g2
  obtain ⟨z2, e2, _, w2⟩ := DataW.trod_int he g2
  simp at e2
  have g3 := hx 3 f3 rfl
  rw [o3, t3, hce, List.getElem?_eq_getElem (by omega)] at g3
  obtain ⟨z3, e3, _, w3⟩ := DataW.trod_int he g3
  simp at e3
  exact ⟨z0, z1, z2, z3, e0, e1, e2, e3, w0, w1, w2, w3⟩

theorem open_pair {H : Type} {enc : TypeId × Value → H} {P : Program} {w : World} {base : Nat} {sp : Nat → Bool} {held : Bool} {t e : TypeId} {f0 f1 : Field} {c0 c1 : Value} {fuel : Nat} {x : DataW H × List MemPlace}
    (hs : P.underlying t = some (.struct #[f0, f1])) (hf : [f0, f1].map (fun f => (f.offset, f.type)) = [(0, e), (1, e)]) (he : P.underlying e = some (.int .i64)) (hce : P.cellsOf e = 1)
    (h : DataW.trod enc P w base sp held fuel t [c0, c1] = some x) :
    ∃ a0 a1 : Int, c0 = .int .i64 a0 ∧ c1 = .int .i64 a1 ∧ (Lit.int .i64 a0).wf = true ∧ (Lit.int .i64 a1).wf = true := by
  obtain ⟨xs, m, _, _, _, hl, hx⟩ := DataW.trod_struct hs h
  have hl' : xs.length = 2 := hl
  simp only [List.map_cons, List.map_nil, List.cons.injEq, Prod.mk.injEq, and_true] at hf
  obtain ⟨⟨o0, t0⟩, ⟨o1, t1⟩⟩ := hf
  have g0 := hx 0 f0 rfl
  rw [o0, t0, hce, List.getElem?_eq_getElem (by omega)] at g0
  obtain ⟨z0, e0, _, w0⟩ := DataW.trod_int he g0
  simp at e0
  have g1 := hx 1 f1 rfl
  rw [o1, t1, hce, List.getElem?_eq_getElem (by omega)] at g1
  obtain ⟨z1, e1, _, w1⟩ := DataW.trod_int he g1
  simp at e1
  exact ⟨z0, z1, e0, e1, w0, w1⟩

theorem open_paint {H : Type} {enc : TypeId × Value → H} {P : Program} {w : World} {r : Reach} {base b0 : Nat} {sp : Nat → Bool} {held : Bool} {t tc tp e : TypeId} {f0 f1 f2 f3 f4 g0 g1 g2 g3 h0 h1 : Field} {v : Value} {d : DataW H} {p : List MemPlace}
    (hs : P.underlying t = some (.struct #[f0, f1, f2, f3, f4])) (hf : [f0, f1, f2, f3, f4].map (fun f => (f.offset, f.type)) = [(0, e), (1, tc), (5, tc), (9, tp), (11, tp)]) (hcc : P.cellsOf tc = 4) (hcp : P.cellsOf tp = 2) (hC : P.cellsOf t = 13)
    (hb : P.underlying tc = some (.struct #[g0, g1, g2, g3])) (hg : [g0, g1, g2, g3].map (fun f => (f.offset, f.type)) = [(0, e), (1, e), (2, e), (3, e)])
    (hb2 : P.underlying tp = some (.struct #[h0, h1])) (hg2 : [h0, h1].map (fun f => (f.offset, f.type)) = [(0, e), (1, e)]) (he : P.underlying e = some (.int .i64)) (hce : P.cellsOf e = 1)
    (hv : Value.okWide P w r b0 t v) (h : DataW.Trod enc P w base sp held t v d p) :
    ∃ a0 a1 a2 a3 a4 a5 a6 a7 a8 a9 a10 a11 a12 : Int, v = .agg #[.int .i64 a0, .int .i64 a1, .int .i64 a2, .int .i64 a3, .int .i64 a4, .int .i64 a5, .int .i64 a6, .int .i64 a7, .int .i64 a8, .int .i64 a9, .int .i64 a10, .int .i64 a11, .int .i64 a12] ∧ (Lit.int .i64 a0).wf = true ∧ (Lit.int .i64 a1).wf = true ∧ (Lit.int .i64 a2).wf = true ∧ (Lit.int .i64 a3).wf = true ∧ (Lit.int .i64 a4).wf = true ∧ (Lit.int .i64 a5).wf = true ∧ (Lit.int .i64 a6).wf = true ∧ (Lit.int .i64 a7).wf = true ∧ (Lit.int .i64 a8).wf = true ∧ (Lit.int .i64 a9).wf = true ∧ (Lit.int .i64 a10).wf = true ∧ (Lit.int .i64 a11).wf = true ∧ (Lit.int .i64 a12).wf = true := by
  obtain ⟨cs, rfl, hsz⟩ := okWide_struct hs hv
  obtain ⟨c0, c1, c2, c3, c4, c5, c6, c7, c8, c9, c10, c11, c12, rfl⟩ := array_13 (hsz.trans hC)
  obtain ⟨fuel, hh⟩ := h
  obtain ⟨xs, m', _, _, _, hl', hx⟩ := DataW.trod_struct hs hh
  have hl2 : xs.length = 5 := hl'
  simp only [List.map_cons, List.map_nil, List.cons.injEq, Prod.mk.injEq, and_true] at hf
  obtain ⟨⟨q0, r0⟩, ⟨q1, r1⟩, ⟨q2, r2⟩, ⟨q3, r3⟩, ⟨q4, r4⟩⟩ := hf
  have y0 := hx 0 f0 rfl
  rw [q0, r0, hce, List.getElem?_eq_getElem (by omega)] at y0
  obtain ⟨z0, e0, _, w0⟩ := DataW.trod_int he y0
  simp [Value.cells] at e0
  have y1 := hx 1 f1 rfl
  rw [q1, r1, hcc, List.getElem?_eq_getElem (by omega)] at y1
  have y2 := hx 2 f2 rfl
  rw [q2, r2, hcc, List.getElem?_eq_getElem (by omega)] at y2
  have y3 := hx 3 f3 rfl
  rw [q3, r3, hcp, List.getElem?_eq_getElem (by omega)] at y3
  have y4 := hx 4 f4 rfl
  rw [q4, r4, hcp, List.getElem?_eq_getElem (by omega)] at y4
  simp [Value.cells] at y1 y2 y3 y4
  obtain ⟨z1, z2, z3, z4, rfl, rfl, rfl, rfl, w1, w2, w3, w4⟩ := open_quad hb hg he hce y1
  obtain ⟨z5, z6, z7, z8, rfl, rfl, rfl, rfl, w5, w6, w7, w8⟩ := open_quad hb hg he hce y2
  obtain ⟨z9, z10, rfl, rfl, w9, w10⟩ := open_pair hb2 hg2 he hce y3
  obtain ⟨z11, z12, rfl, rfl, w11, w12⟩ := open_pair hb2 hg2 he hce y4
  exact ⟨z0, z1, z2, z3, z4, z5, z6, z7, z8, z9, z10, z11, z12, by rw [e0], w0, w1, w2, w3, w4, w5, w6, w7, w8, w9, w10, w11, w12⟩
end Go.Proofs.YtdbphpekhmlmdabGreat

/-
  Nodes and scenes that came in: their cells written out. (By opennode.py.)
-/
namespace Go.Proofs.YtdbphpekhmlmdabGreat
open Go.ChangeShapes Go.WideShapes Go.RowKit
set_option linter.unusedVariables false

theorem cells_int : Tryz.prog.cellsOf 3 = 1 := by kernel_rfl
theorem cells_bool : Tryz.prog.cellsOf 4 = 1 := by kernel_rfl
theorem cells_mat : Tryz.prog.cellsOf 72 = 6 := by kernel_rfl
theorem cells_path : Tryz.prog.cellsOf 75 = 2 := by kernel_rfl
theorem cells_paint : Tryz.prog.cellsOf 79 = 13 := by kernel_rfl
theorem cells_color : Tryz.prog.cellsOf 76 = 4 := by kernel_rfl
theorem cells_point : Tryz.prog.cellsOf 77 = 2 := by kernel_rfl
theorem cells_ints : Tryz.prog.cellsOf 47 = 1 := by kernel_rfl
theorem cells_pts : Tryz.prog.cellsOf 73 = 1 := by kernel_rfl
theorem cells_node : Tryz.prog.cellsOf 81 = 31 := by kernel_rfl
theorem cells_scene : Tryz.prog.cellsOf 24 = 1 := by kernel_rfl
theorem cells_nodes : Tryz.prog.cellsOf 22 = 1 := by kernel_rfl

theorem open_mat6 {H : Type} {enc : TypeId × Value → H} {w : World} {base : Nat} {sp : Nat → Bool} {held : Bool} {fuel : Nat} {x : DataW H × List MemPlace} {c0 c1 c2 c3 c4 c5 : Value} (h : DataW.trod enc Tryz.prog w base sp held fuel 72 [c0, c1, c2, c3, c4, c5] = some x) :
    ∃ a0 a1 a2 a3 a4 a5 : Int, c0 = .int .i64 a0 ∧ c1 = .int .i64 a1 ∧ c2 = .int .i64 a2 ∧ c3 = .int .i64 a3 ∧ c4 = .int .i64 a4 ∧ c5 = .int .i64 a5 := by
  obtain ⟨xs, m, _, _, _, hl, hx⟩ := DataW.trod_struct Tryz.underlying72 h
  have hl' : xs.length = 6 := hl
  have y0 : DataW.trod enc Tryz.prog w base sp held m 3 (([c0, c1, c2, c3, c4, c5].drop 0).take (Tryz.prog.cellsOf 3)) = xs[0]? := hx 0 _ rfl
  rw [cells_int, List.getElem?_eq_getElem (by omega)] at y0
  simp only [List.drop_zero, List.take_succ_cons, List.take_zero] at y0
  obtain ⟨z0, e0, _, _⟩ := DataW.trod_int Tryz.underlying3 y0
  simp only [List.cons.injEq, and_true] at e0
  have y1 : DataW.trod enc Tryz.prog w base sp held m 3 (([c0, c1, c2, c3, c4, c5].drop 1).take (Tryz.prog.cellsOf 3)) = xs[1]? := hx 1 _ rfl
  rw [cells_int, List.getElem?_eq_getElem (by omega)] at y1
  simp only [List.drop_succ_cons, List.drop_zero, List.take_succ_cons, List.take_zero] at y1
  obtain ⟨z1, e1, _, _⟩ := DataW.trod_int Tryz.underlying3 y1
  simp only [List.cons.injEq, and_true] at e1
  have y2 : DataW.trod enc Tryz.prog w base sp held m 3 (([c0, c1, c2, c3, c4, c5].drop 2).take (Tryz.prog.cellsOf 3)) = xs[2]? := hx 2 _ rfl
  rw [cells_int, List.getElem?_eq_getElem (by omega)] at y2
  simp only [List.drop_succ_cons, List.drop_zero, List.take_succ_cons, List.take_zero] at y2
  obtain ⟨z2, e2, _, _⟩ := DataW.trod_int Tryz.underlying3 y2
  simp only [List.cons.injEq, and_true] at e2
  have y3 : DataW.trod enc Tryz.prog w base sp held m 3 (([c0, c1, c2, c3, c4, c5].drop 3).take (Tryz.prog.cellsOf 3)) = xs[3]? := hx 3 _ rfl
  rw [cells_int, List.getElem?_eq_getElem (by omega)] at y3
  simp only [List.drop_succ_cons, List.drop_zero, List.take_succ_cons, List.take_zero] at y3
  obtain ⟨z3, e3, _, _⟩ := DataW.trod_int Tryz.underlying3 y3
  simp only [List.cons.injEq, and_true] at e3
  have y4 : DataW.trod enc Tryz.prog w base sp held m 3 (([c0, c1, c2, c3, c4, c5].drop 4).take (Tryz.prog.cellsOf 3)) = xs[4]? := hx 4 _ rfl
  rw [cells_int, List.getElem?_eq_getElem (by omega)] at y4
  simp only [List.drop_succ_cons, List.drop_zero, List.take_succ_cons, List.take_zero] at y4
  obtain ⟨z4, e4, _, _⟩ := DataW.trod_int Tryz.underlying3 y4
  simp only [List.cons.injEq, and_true] at e4
  have y5 : DataW.trod enc Tryz.prog w base sp held m 3 (([c0, c1, c2, c3, c4, c5].drop 5).take (Tryz.prog.cellsOf 3)) = xs[5]? := hx 5 _ rfl
  rw [cells_int, List.getElem?_eq_getElem (by omega)] at y5
  simp only [List.drop_succ_cons, List.drop_zero, List.take_succ_cons, List.take_zero] at y5
  obtain ⟨z5, e5, _, _⟩ := DataW.trod_int Tryz.underlying3 y5
  simp only [List.cons.injEq, and_true] at e5
  exact ⟨z0, z1, z2, z3, z4, z5, e0, e1, e2, e3, e4, e5⟩

theorem open_pathT {H : Type} {enc : TypeId × Value → H} {w : World} {base : Nat} {sp : Nat → Bool} {held : Bool} {fuel : Nat} {x : DataW H × List MemPlace} {c0 c1 : Value} (h : DataW.trod enc Tryz.prog w base sp held fuel 75 [c0, c1] = some x) :
    ∃ (a : Option Addr) (n c : Nat) (vf : Nat → Int) (b : Option Addr) (m d : Nat) (pf : Nat → Int × Int), c0 = .slice a n c ∧ c1 = .slice b m d ∧ n ≤ maxLen ∧ (∀ i, i < n → IntAt w a i (vf i)) ∧ m ≤ maxLen ∧ ∀ i, i < m → PtArg w b i (pf i) := by
  obtain ⟨xs, m, _, _, _, hl, hx⟩ := DataW.trod_struct Tryz.underlying75 h
  have hl' : xs.length = 2 := hl
  have y0 : DataW.trod enc Tryz.prog w base sp held m 47 (([c0, c1].drop 0).take (Tryz.prog.cellsOf 47)) = xs[0]? := hx 0 _ rfl
  rw [cells_ints, List.getElem?_eq_getElem (by omega)] at y0
  simp only [List.drop_zero, List.take_succ_cons, List.take_zero] at y0
  have y1 : DataW.trod enc Tryz.prog w base sp held m 73 (([c0, c1].drop 1).take (Tryz.prog.cellsOf 73)) = xs[1]? := hx 1 _ rfl
  rw [cells_pts, List.getElem?_eq_getElem (by omega)] at y1
  simp only [List.drop_succ_cons, List.drop_zero, List.take_succ_cons, List.take_zero] at y1
  obtain ⟨a, n, c, vf, rfl, h1, h2⟩ := open_ilist Tryz.underlying47 Tryz.underlying3 cells_int y0
  obtain ⟨b, m, d, pf, rfl, h3, h4⟩ := open_plist Tryz.underlying73 Tryz.underlying77 cells_point rfl rfl cells_int cells_int Tryz.underlying3 Tryz.underlying3 y1
  exact ⟨a, n, c, vf, b, m, d, pf, rfl, rfl, h1, h2, h3, h4⟩

theorem open_paintT {H : Type} {enc : TypeId × Value → H} {w : World} {base : Nat} {sp : Nat → Bool} {held : Bool} {fuel : Nat} {x : DataW H × List MemPlace} {c0 c1 c2 c3 c4 c5 c6 c7 c8 c9 c10 c11 c12 : Value} (h : DataW.trod enc Tryz.prog w base sp held fuel 79 [c0, c1, c2, c3, c4, c5, c6, c7, c8, c9, c10, c11, c12] = some x) :
    ∃ a0 a1 a2 a3 a4 a5 a6 a7 a8 a9 a10 a11 a12 : Int, c0 = .int .i64 a0 ∧ c1 = .int .i64 a1 ∧ c2 = .int .i64 a2 ∧ c3 = .int .i64 a3 ∧ c4 = .int .i64 a4 ∧ c5 = .int .i64 a5 ∧ c6 = .int .i64 a6 ∧ c7 = .int .i64 a7 ∧ c8 = .int .i64 a8 ∧ c9 = .int .i64 a9 ∧ c10 = .int .i64 a10 ∧ c11 = .int .i64 a11 ∧ c12 = .int .i64 a12 := by
  obtain ⟨xs, m, _, _, _, hl, hx⟩ := DataW.trod_struct Tryz.underlying79 h
  have hl' : xs.length = 5 := hl
  have y0 : DataW.trod enc Tryz.prog w base sp held m 3 (([c0, c1, c2, c3, c4, c5, c6, c7, c8, c9, c10, c11, c12].drop 0).take (Tryz.prog.cellsOf 3)) = xs[0]? := hx 0 _ rfl
  rw [cells_int, List.getElem?_eq_getElem (by omega)] at y0
  simp only [List.drop_zero, List.take_succ_cons, List.take_zero] at y0
  have y1 : DataW.trod enc Tryz.prog w base sp held m 76 (([c0, c1, c2, c3, c4, c5, c6, c7, c8, c9, c10, c11, c12].drop 1).take (Tryz.prog.cellsOf 76)) = xs[1]? := hx 1 _ rfl
  rw [cells_color, List.getElem?_eq_getElem (by omega)] at y1
  simp only [List.drop_succ_cons, List.drop_zero, List.take_succ_cons, List.take_zero] at y1
  have y2 : DataW.trod enc Tryz.prog w base sp held m 76 (([c0, c1, c2, c3, c4, c5, c6, c7, c8, c9, c10, c11, c12].drop 5).take (Tryz.prog.cellsOf 76)) = xs[2]? := hx 2 _ rfl
  rw [cells_color, List.getElem?_eq_getElem (by omega)] at y2
  simp only [List.drop_succ_cons, List.drop_zero, List.take_succ_cons, List.take_zero] at y2
  have y3 : DataW.trod enc Tryz.prog w base sp held m 77 (([c0, c1, c2, c3, c4, c5, c6, c7, c8, c9, c10, c11, c12].drop 9).take (Tryz.prog.cellsOf 77)) = xs[3]? := hx 3 _ rfl
  rw [cells_point, List.getElem?_eq_getElem (by omega)] at y3
  simp only [List.drop_succ_cons, List.drop_zero, List.take_succ_cons, List.take_zero] at y3
  have y4 : DataW.trod enc Tryz.prog w base sp held m 77 (([c0, c1, c2, c3, c4, c5, c6, c7, c8, c9, c10, c11, c12].drop 11).take (Tryz.prog.cellsOf 77)) = xs[4]? := hx 4 _ rfl
  rw [cells_point, List.getElem?_eq_getElem (by omega)] at y4
  simp only [List.drop_succ_cons, List.drop_zero, List.take_succ_cons, List.take_zero] at y4
  obtain ⟨z0, e0, _, _⟩ := DataW.trod_int Tryz.underlying3 y0
  simp only [List.cons.injEq, and_true] at e0
  obtain ⟨z1, z2, z3, z4, rfl, rfl, rfl, rfl, _⟩ := open_quad Tryz.underlying76 rfl Tryz.underlying3 cells_int y1
  obtain ⟨z5, z6, z7, z8, rfl, rfl, rfl, rfl, _⟩ := open_quad Tryz.underlying76 rfl Tryz.underlying3 cells_int y2
  obtain ⟨z9, z10, rfl, rfl, _⟩ := open_pair Tryz.underlying77 rfl Tryz.underlying3 cells_int y3
  obtain ⟨z11, z12, rfl, rfl, _⟩ := open_pair Tryz.underlying77 rfl Tryz.underlying3 cells_int y4
  exact ⟨z0, z1, z2, z3, z4, z5, z6, z7, z8, z9, z10, z11, z12, e0, rfl, rfl, rfl, rfl, rfl, rfl, rfl, rfl, rfl, rfl, rfl, rfl⟩

set_option maxHeartbeats 4000000 in
theorem open_nodeT {H : Type} {enc : TypeId × Value → H} {w : World} {base : Nat} {sp : Nat → Bool} {held : Bool} {fuel : Nat} {x : DataW H × List MemPlace} {c0 c1 c2 c3 c4 c5 c6 c7 c8 c9 c10 c11 c12 c13 c14 c15 c16 c17 c18 c19 c20 c21 c22 c23 c24 c25 c26 c27 c28 c29 c30 : Value} (h : DataW.trod enc Tryz.prog w base sp held fuel 81 [c0, c1, c2, c3, c4, c5, c6, c7, c8, c9, c10, c11, c12, c13, c14, c15, c16, c17, c18, c19, c20, c21, c22, c23, c24, c25, c26, c27, c28, c29, c30] = some x) :
    ∃ (y : Nd) (s : Na), [c0, c1, c2, c3, c4, c5, c6, c7, c8, c9, c10, c11, c12, c13, c14, c15, c16, c17, c18, c19, c20, c21, c22, c23, c24, c25, c26, c27, c28, c29, c30] = (ndC y s).toList ∧ y.Fit ∧ NdIn w y s := by
  obtain ⟨xs, m, _, _, _, hl, hx⟩ := DataW.trod_struct Tryz.underlying81 h
  have hl' : xs.length = 12 := hl
  have y0 : DataW.trod enc Tryz.prog w base sp held m 3 (([c0, c1, c2, c3, c4, c5, c6, c7, c8, c9, c10, c11, c12, c13, c14, c15, c16, c17, c18, c19, c20, c21, c22, c23, c24, c25, c26, c27, c28, c29, c30].drop 0).take (Tryz.prog.cellsOf 3)) = xs[0]? := hx 0 _ rfl
  rw [cells_int, List.getElem?_eq_getElem (by omega)] at y0
  simp only [List.drop_zero, List.take_succ_cons, List.take_zero] at y0
  have y1 : DataW.trod enc Tryz.prog w base sp held m 3 (([c0, c1, c2, c3, c4, c5, c6, c7, c8, c9, c10, c11, c12, c13, c14, c15, c16, c17, c18, c19, c20, c21, c22, c23, c24, c25, c26, c27, c28, c29, c30].drop 1).take (Tryz.prog.cellsOf 3)) = xs[1]? := hx 1 _ rfl
  rw [cells_int, List.getElem?_eq_getElem (by omega)] at y1
  simp only [List.drop_succ_cons, List.drop_zero, List.take_succ_cons, List.take_zero] at y1
  have y2 : DataW.trod enc Tryz.prog w base sp held m 4 (([c0, c1, c2, c3, c4, c5, c6, c7, c8, c9, c10, c11, c12, c13, c14, c15, c16, c17, c18, c19, c20, c21, c22, c23, c24, c25, c26, c27, c28, c29, c30].drop 2).take (Tryz.prog.cellsOf 4)) = xs[2]? := hx 2 _ rfl
  rw [cells_bool, List.getElem?_eq_getElem (by omega)] at y2
  simp only [List.drop_succ_cons, List.drop_zero, List.take_succ_cons, List.take_zero] at y2
  have y3 : DataW.trod enc Tryz.prog w base sp held m 72 (([c0, c1, c2, c3, c4, c5, c6, c7, c8, c9, c10, c11, c12, c13, c14, c15, c16, c17, c18, c19, c20, c21, c22, c23, c24, c25, c26, c27, c28, c29, c30].drop 3).take (Tryz.prog.cellsOf 72)) = xs[3]? := hx 3 _ rfl
  rw [cells_mat, List.getElem?_eq_getElem (by omega)] at y3
  simp only [List.drop_succ_cons, List.drop_zero, List.take_succ_cons, List.take_zero] at y3
  have y4 : DataW.trod enc Tryz.prog w base sp held m 75 (([c0, c1, c2, c3, c4, c5, c6, c7, c8, c9, c10, c11, c12, c13, c14, c15, c16, c17, c18, c19, c20, c21, c22, c23, c24, c25, c26, c27, c28, c29, c30].drop 9).take (Tryz.prog.cellsOf 75)) = xs[4]? := hx 4 _ rfl
  rw [cells_path, List.getElem?_eq_getElem (by omega)] at y4
  simp only [List.drop_succ_cons, List.drop_zero, List.take_succ_cons, List.take_zero] at y4
  have y5 : DataW.trod enc Tryz.prog w base sp held m 4 (([c0, c1, c2, c3, c4, c5, c6, c7, c8, c9, c10, c11, c12, c13, c14, c15, c16, c17, c18, c19, c20, c21, c22, c23, c24, c25, c26, c27, c28, c29, c30].drop 11).take (Tryz.prog.cellsOf 4)) = xs[5]? := hx 5 _ rfl
  rw [cells_bool, List.getElem?_eq_getElem (by omega)] at y5
  simp only [List.drop_succ_cons, List.drop_zero, List.take_succ_cons, List.take_zero] at y5
  have y6 : DataW.trod enc Tryz.prog w base sp held m 3 (([c0, c1, c2, c3, c4, c5, c6, c7, c8, c9, c10, c11, c12, c13, c14, c15, c16, c17, c18, c19, c20, c21, c22, c23, c24, c25, c26, c27, c28, c29, c30].drop 12).take (Tryz.prog.cellsOf 3)) = xs[6]? := hx 6 _ rfl
  rw [cells_int, List.getElem?_eq_getElem (by omega)] at y6
  simp only [List.drop_succ_cons, List.drop_zero, List.take_succ_cons, List.take_zero] at y6
  have y7 : DataW.trod enc Tryz.prog w base sp held m 47 (([c0, c1, c2, c3, c4, c5, c6, c7, c8, c9, c10, c11, c12, c13, c14, c15, c16, c17, c18, c19, c20, c21, c22, c23, c24, c25, c26, c27, c28, c29, c30].drop 13).take (Tryz.prog.cellsOf 47)) = xs[7]? := hx 7 _ rfl
  rw [cells_ints, List.getElem?_eq_getElem (by omega)] at y7
  simp only [List.drop_succ_cons, List.drop_zero, List.take_succ_cons, List.take_zero] at y7
  have y8 : DataW.trod enc Tryz.prog w base sp held m 79 (([c0, c1, c2, c3, c4, c5, c6, c7, c8, c9, c10, c11, c12, c13, c14, c15, c16, c17, c18, c19, c20, c21, c22, c23, c24, c25, c26, c27, c28, c29, c30].drop 14).take (Tryz.prog.cellsOf 79)) = xs[8]? := hx 8 _ rfl
  rw [cells_paint, List.getElem?_eq_getElem (by omega)] at y8
  simp only [List.drop_succ_cons, List.drop_zero, List.take_succ_cons, List.take_zero] at y8
  have y9 : DataW.trod enc Tryz.prog w base sp held m 3 (([c0, c1, c2, c3, c4, c5, c6, c7, c8, c9, c10, c11, c12, c13, c14, c15, c16, c17, c18, c19, c20, c21, c22, c23, c24, c25, c26, c27, c28, c29, c30].drop 27).take (Tryz.prog.cellsOf 3)) = xs[9]? := hx 9 _ rfl
  rw [cells_int, List.getElem?_eq_getElem (by omega)] at y9
  simp only [List.drop_succ_cons, List.drop_zero, List.take_succ_cons, List.take_zero] at y9
  have y10 : DataW.trod enc Tryz.prog w base sp held m 3 (([c0, c1, c2, c3, c4, c5, c6, c7, c8, c9, c10, c11, c12, c13, c14, c15, c16, c17, c18, c19, c20, c21, c22, c23, c24, c25, c26, c27, c28, c29, c30].drop 28).take (Tryz.prog.cellsOf 3)) = xs[10]? := hx 10 _ rfl
  rw [cells_int, List.getElem?_eq_getElem (by omega)] at y10
  simp only [List.drop_succ_cons, List.drop_zero, List.take_succ_cons, List.take_zero] at y10
  have y11 : DataW.trod enc Tryz.prog w base sp held m 75 (([c0, c1, c2, c3, c4, c5, c6, c7, c8, c9, c10, c11, c12, c13, c14, c15, c16, c17, c18, c19, c20, c21, c22, c23, c24, c25, c26, c27, c28, c29, c30].drop 29).take (Tryz.prog.cellsOf 75)) = xs[11]? := hx 11 _ rfl
  rw [cells_path, List.getElem?_eq_getElem (by omega)] at y11
  simp only [List.drop_succ_cons, List.drop_zero, List.take_succ_cons, List.take_zero] at y11
  obtain ⟨z0, e0, _, W0⟩ := DataW.trod_int Tryz.underlying3 y0
  obtain ⟨z1, e1, _, W1⟩ := DataW.trod_int Tryz.underlying3 y1
  obtain ⟨z2, e2, _⟩ := DataW.trod_bool Tryz.underlying4 y2
  obtain ⟨m0, m1, m2, m3, m4, m5, rfl, rfl, rfl, rfl, rfl, rfl⟩ := open_mat6 y3
  obtain ⟨av, nv, cv, vf, ap, np, cp, pf, rfl, rfl, v1, v2, p1, p2⟩ := open_pathT y4
  obtain ⟨z5, e5, _⟩ := DataW.trod_bool Tryz.underlying4 y5
  obtain ⟨z6, e6, _, _⟩ := DataW.trod_int Tryz.underlying3 y6
  obtain ⟨ad, nd, cd, df, rfl, d1, d2⟩ := open_ilist Tryz.underlying47 Tryz.underlying3 cells_int y7
  obtain ⟨k0, k1, k2, k3, k4, k5, k6, k7, k8, k9, k10, k11, k12, rfl, rfl, rfl, rfl, rfl, rfl, rfl, rfl, rfl, rfl, rfl, rfl, rfl⟩ := open_paintT y8
  obtain ⟨z9, e9, _, _⟩ := DataW.trod_int Tryz.underlying3 y9
  obtain ⟨z10, e10, _, _⟩ := DataW.trod_int Tryz.underlying3 y10
  obtain ⟨bv, mv, dv, wf, bp, mp, dp, qf, rfl, rfl, w1, w2, q1, q2⟩ := open_pathT y11
  simp only [List.cons.injEq, and_true] at e0 e1 e2 e5 e6 e9 e10
  subst e0 e1 e2 e5 e6 e9 e10
  exact ⟨⟨z0, z1, z2, m0, m1, m2, m3, m4, m5, nv, vf, np, pf, z5, z6, nd, df, ⟨k0, ⟨k1, k2, k3, k4⟩, ⟨k5, k6, k7, k8⟩, k9, k10, k11, k12⟩, z9, z10, mv, wf, mp, qf⟩, ⟨av, cv, ap, cp, ad, cd, bv, dv, bp, dp⟩, rfl, ⟨v1, p1, d1, w1, q1, W0, W1⟩, ⟨v2, p2, d2, w2, q2⟩⟩

theorem list_31 {α : Type} {l : List α} (h : l.length = 31) : ∃ c0 c1 c2 c3 c4 c5 c6 c7 c8 c9 c10 c11 c12 c13 c14 c15 c16 c17 c18 c19 c20 c21 c22 c23 c24 c25 c26 c27 c28 c29 c30, l = [c0, c1, c2, c3, c4, c5, c6, c7, c8, c9, c10, c11, c12, c13, c14, c15, c16, c17, c18, c19, c20, c21, c22, c23, c24, c25, c26, c27, c28, c29, c30] := by
  match l, h with
  | [c0, c1, c2, c3, c4, c5, c6, c7, c8, c9, c10, c11, c12, c13, c14, c15, c16, c17, c18, c19, c20, c21, c22, c23, c24, c25, c26, c27, c28, c29, c30], _ => exact ⟨c0, c1, c2, c3, c4, c5, c6, c7, c8, c9, c10, c11, c12, c13, c14, c15, c16, c17, c18, c19, c20, c21, c22, c23, c24, c25, c26, c27, c28, c29, c30, rfl⟩
theorem open_nodeP {H : Type} {enc : TypeId × Value → H} {P : Program} {w : World} {r : Reach} {base b0 : Nat} {sp : Nat → Bool} {held : Bool} {t : TypeId} {fs : Array Field} {v : Value} {d : DataW H} {p : List MemPlace} (hs : P.underlying t = some (.struct fs)) (ce : P.cellsOf t = 31)
    (hN : ∀ (fuel : Nat) (l : List Value) (x : DataW H × List MemPlace), l.length = 31 → DataW.trod enc P w base sp held fuel t l = some x → ∃ (y : Nd) (s : Na), l = (ndC y s).toList ∧ y.Fit ∧ NdIn w y s)
    (hv : Value.okWide P w r b0 t v) (h : DataW.Trod enc P w base sp held t v d p) : ∃ (y : Nd) (s : Na), v = .agg (ndC y s) ∧ y.Fit ∧ NdIn w y s := by
  obtain ⟨cs, rfl, hsz⟩ := okWide_struct hs hv
  obtain ⟨fuel, hh⟩ := h
  have hlen : cs.toList.length = 31 := Array.length_toList.trans (hsz.trans ce)
  change DataW.trod enc P w base sp held fuel t cs.toList = _ at hh
  obtain ⟨y, s, h1, h2, h3⟩ := hN _ _ _ hlen hh
  refine ⟨y, s, ?_, h2, h3⟩
  congr 1
  exact Array.toList_inj.1 h1
instance : Inhabited Nd := ⟨⟨0, 0, false, 0, 0, 0, 0, 0, 0, 0, fun _ => 0, 0, fun _ => (0, 0), false, 0, 0, fun _ => 0, ⟨0, ⟨0, 0, 0, 0⟩, ⟨0, 0, 0, 0⟩, 0, 0, 0, 0⟩, 0, 0, 0, fun _ => 0, 0, fun _ => (0, 0)⟩⟩
instance : Inhabited Na := ⟨⟨none, 0, none, 0, none, 0, none, 0, none, 0⟩⟩
theorem open_nodesP {H : Type} {enc : TypeId × Value → H} {P : Program} {w : World} {base : Nat} {sp : Nat → Bool} {held : Bool} {fuel : Nat} {x : DataW H × List MemPlace} {t e : TypeId} {a : Option Addr} {n c : Nat} (ht : P.underlying t = some (.slice e)) (ce : P.cellsOf e = 31)
    (hN : ∀ (fuel : Nat) (l : List Value) (x : DataW H × List MemPlace), l.length = 31 → DataW.trod enc P w base sp held fuel e l = some x → ∃ (y : Nd) (s : Na), l = (ndC y s).toList ∧ y.Fit ∧ NdIn w y s)
    (h : DataW.trod enc P w base sp held fuel t [.slice a n c] = some x) :
    ∃ (X : Nat → Nd) (A : Nat → Na), n ≤ maxLen ∧ (∀ i, i < n → (X i).Fit) ∧ ∀ i, i < n → NrAt w a i (X i) (A i) := by
  rcases Go.Deep.open_slice ht h with ⟨hcs, _⟩ | ⟨b, len, cap, m, q, D, Pl, hcs, _, hl, hm, hmm, _, hx⟩
  · simp at hcs
    obtain ⟨rfl, rfl, rfl⟩ := hcs
    exact ⟨fun _ => default, fun _ => default, by unfold maxLen; omega, fun i hi => absurd hi (by omega), fun i hi => absurd hi (by omega)⟩
  · simp at hcs
    obtain ⟨rfl, rfl, rfl⟩ := hcs
    have hnm : n ≤ m := by rw [hmm]; split <;> omega
    have each : ∀ i, i < n → ∃ p : Nd × Na, p.1.Fit ∧ NrAt w (some b) i p.1 p.2 := by
      intro i hi
      have hs : b.spot = none := by
        obtain ⟨cs0, h1, _⟩ := hx 0 (by omega)
        rw [ce] at h1
        obtain ⟨_, hlen, hcell⟩ := World.cells?_some h1
        have := World.cell?_spot ((hcell 0 (by omega)).trans (List.getElem?_eq_getElem (by omega)))
        simpa [Addr.add] using this
      obtain ⟨bb, off, spot⟩ := b
      dsimp only at hs
      subst hs
      obtain ⟨cs', h1, h2⟩ := hx i (by omega)
      rw [ce, Addr.add_mid] at h1
      obtain ⟨_, hlen, hcell⟩ := World.cells?_some h1
      obtain ⟨y, s, g1, g2, g3⟩ := hN _ _ _ hlen h2
      refine ⟨(y, s), g2, bb, off, rfl, fun j v hv => ?_, g3⟩
      have hj : j < 31 := (Array.getElem?_eq_some_iff.1 hv).1
      have hc := hcell j hj
      rw [Addr.add_mid] at hc
      rw [hc, g1, Array.getElem?_toList]
      exact hv
    obtain ⟨f, hf⟩ := Go.Deep.choose_lt each
    exact ⟨fun i => (f i).1, fun i => (f i).2, by omega, fun i hi => (hf i hi).1, fun i hi => (hf i hi).2⟩
theorem open_nodeL {H : Type} {enc : TypeId × Value → H} {w : World} {base : Nat} {sp : Nat → Bool} {held : Bool} {fuel : Nat} {x : DataW H × List MemPlace} {l : List Value} (hlen : l.length = 31) (h : DataW.trod enc Tryz.prog w base sp held fuel 81 l = some x) : ∃ (y : Nd) (s : Na), l = (ndC y s).toList ∧ y.Fit ∧ NdIn w y s := by
  obtain ⟨c0, c1, c2, c3, c4, c5, c6, c7, c8, c9, c10, c11, c12, c13, c14, c15, c16, c17, c18, c19, c20, c21, c22, c23, c24, c25, c26, c27, c28, c29, c30, rfl⟩ := list_31 hlen
  exact open_nodeT h
theorem open_nodes {H : Type} {enc : TypeId × Value → H} {w : World} {base : Nat} {sp : Nat → Bool} {held : Bool} {fuel : Nat} {x : DataW H × List MemPlace} {a : Option Addr} {n c : Nat} (h : DataW.trod enc Tryz.prog w base sp held fuel 22 [.slice a n c] = some x) :
    ∃ (X : Nat → Nd) (A : Nat → Na), n ≤ maxLen ∧ (∀ i, i < n → (X i).Fit) ∧ ∀ i, i < n → NrAt w a i (X i) (A i) :=
  open_nodesP Tryz.underlying22 cells_node (fun _ _ _ h1 h2 => open_nodeL h1 h2) h
theorem open_sceneP {H : Type} {enc : TypeId × Value → H} {P : Program} {w : World} {r : Reach} {base b0 : Nat} {sp : Nat → Bool} {held : Bool} {t ts e : TypeId} {f0 : Field} {v : Value} {d : DataW H} {p : List MemPlace} (hs : P.underlying t = some (.struct #[f0])) (hf : (f0.offset, f0.type) = (0, ts)) (hl : P.underlying ts = some (.slice e)) (hc : P.cellsOf t = 1) (hc1 : P.cellsOf ts = 1) (ce : P.cellsOf e = 31)
    (hN : ∀ (fuel : Nat) (l : List Value) (x : DataW H × List MemPlace), l.length = 31 → DataW.trod enc P w base sp held fuel e l = some x → ∃ (y : Nd) (s : Na), l = (ndC y s).toList ∧ y.Fit ∧ NdIn w y s)
    (hv : Value.okWide P w r b0 t v) (h : DataW.Trod enc P w base sp held t v d p) :
    ∃ (a : Option Addr) (n c : Nat) (X : Nat → Nd) (A : Nat → Na), v = .agg #[.slice a n c] ∧ n ≤ maxLen ∧ (∀ i, i < n → (X i).Fit) ∧ ∀ i, i < n → NrAt w a i (X i) (A i) := by
  obtain ⟨cs, rfl, hsz⟩ := okWide_struct hs hv
  have hlen : cs.toList.length = 1 := Array.length_toList.trans (hsz.trans hc)
  obtain ⟨fuel, hh⟩ := h
  change DataW.trod enc P w base sp held fuel t cs.toList = _ at hh
  obtain ⟨l⟩ := cs
  match l, hlen with
  | [c0], _ =>
    obtain ⟨xs, m, _, _, _, hl', hx⟩ := DataW.trod_struct hs hh
    have hl2 : xs.length = 1 := hl'
    have y0 := hx 0 f0 rfl
    rw [(Prod.mk.inj hf).1, (Prod.mk.inj hf).2, hc1, List.getElem?_eq_getElem (by omega)] at y0
    simp only [List.drop_zero, List.take_succ_cons, List.take_zero] at y0
    rcases Go.Deep.open_slice hl y0 with ⟨hcs, _⟩ | ⟨b, len, cap, m, q, D, Pl, hcs, _⟩
    · simp at hcs
      subst hcs
      obtain ⟨X, A, h1, h2, h3⟩ := open_nodesP hl ce hN y0
      exact ⟨_, _, _, X, A, rfl, h1, h2, h3⟩
    · simp at hcs
      subst hcs
      obtain ⟨X, A, h1, h2, h3⟩ := open_nodesP hl ce hN y0
      exact ⟨_, _, _, X, A, rfl, h1, h2, h3⟩
end Go.Proofs.YtdbphpekhmlmdabGreat

/-
  A call that starts no goroutine, where the row speaks of such as start some: its own run is a good one.
-/
namespace Go.Proofs.YtdbphpekhmlmdabGreat

theorem good_of_calls {P : Program} {f : FuncId} {args : Array Value} {W : World} {Post : Value → World → Prop} (hi : P.inits.idxOf? f = none) (h : Calls P f args W fun e W' => ∃ v, e = .returned v ∧ Post v W') :
    ∃ M last o w' t', runNT P (M + 1) (Conc.solo (Conc.G (Frame.enter P f args .normal) []) W) #[] = (.ended o w', t') ∧ runN P M (Conc.solo (Conc.G (Frame.enter P f args .normal) []) W) = .next last ∧
      step P last = .ended o w' ∧ Conc.Good P Post last o w' t' := by
  have h' : Calls P f args W fun | .returned v, w' => Post v w' | _, _ => False := h.mono fun e W' ⟨v, he, hp⟩ => by subst he; exact hp
  obtain ⟨n, v, w', fr, hn, hend, hp⟩ := h'.done_lone hi
  have one : ∀ (i : Nat) g, (lone fr [] w').gs[i]? = some g → i ≠ 0 → False := fun i g hg hi => by
    cases i with
    | zero => exact hi rfl
    | succ k => simp [lone] at hg
  refine ⟨n, lone fr [] w', .done v, w', (runNT P (n + 1) (lone (Frame.enter P f args .normal) [] W) #[]).2, Prod.ext (by rw [runNT_fst]; exact hend) rfl, hn, step_of_runs hn hend, v, rfl, hp,
    fun said => (no_race_of_lone P n _ _ hn (by simp [lone]) rfl).2, handedOver_of_lone hn, ?_, fun i g hg hi => (one i g hg hi).elim⟩
  exact ⟨fun g hg => by simp [lone] at hg, rfl⟩
end Go.Proofs.YtdbphpekhmlmdabGreat
