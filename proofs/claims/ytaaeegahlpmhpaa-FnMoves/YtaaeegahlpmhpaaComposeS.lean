/-
  The walk of the specification's Compose.
-/
import Derived.Test.YtaaeegahlpmhpaaApplyS
import Derived.Deep.RegionHeld3
namespace Go.Proofs.Ytaaeegahlpmhpaa
open Go.RowKit

/-- One part of two mats taken together. -/
def crossI (a g c h : Int) : Int := rdivI (a * g + c * h) 65536

/-- What Compose answers of two right mats. -/
def compV (a b c d e f g h i j k l : Int) : Value :=
  bif matOkB (crossI a g c h) (crossI b g d h) (crossI a i c j) (crossI b i d j) (crossI a k c l + e) (crossI b k d l + f)
  then .tuple #[.agg #[.int .i64 (crossI a g c h), .int .i64 (crossI b g d h), .int .i64 (crossI a i c j), .int .i64 (crossI b i d j), .int .i64 (crossI a k c l + e), .int .i64 (crossI b k d l + f)], .bool true]
  else .tuple #[.agg #[.int .i64 0, .int .i64 0, .int .i64 0, .int .i64 0, .int .i64 0, .int .i64 0], .bool false]

theorem ret_mb {a b c d e f a' b' c' d' e' f' : Int} {p : Bool} (h1 : a = a') (h2 : b = b') (h3 : c = c') (h4 : d = d') (h5 : e = e') (h6 : f = f') : Ending.returned (.tuple #[.agg #[.int .i64 a, .int .i64 b, .int .i64 c, .int .i64 d, .int .i64 e, .int .i64 f], .bool p]) = .returned (.tuple #[.agg #[.int .i64 a', .int .i64 b', .int .i64 c', .int .i64 d', .int .i64 e', .int .i64 f'], .bool p]) := by rw [h1, h2, h3, h4, h5, h6]

set_option maxHeartbeats 1000000 in
set_option maxRecDepth 100000 in
theorem specCompose_no (a b c d e f g h i j k l : Int) (hno : (matOkB a b c d e f && matOkB g h i j k l) = false) (w : World) :
    Calls Try.prog 25 #[.agg #[.int .i64 a, .int .i64 b, .int .i64 c, .int .i64 d, .int .i64 e, .int .i64 f], .agg #[.int .i64 g, .int .i64 h, .int .i64 i, .int .i64 j, .int .i64 k, .int .i64 l]] w fun r w' => r = .returned (.tuple #[.agg #[.int .i64 0, .int .i64 0, .int .i64 0, .int .i64 0, .int .i64 0, .int .i64 0], .bool false]) ∧ Below w.heap.size w w' := by
  have HM := hide (specMatOk_any a b c d e f)
  have HP := hide (specMatOk_any g h i j k l)
  generalize matOkB a b c d e f = pm at HM hno
  generalize matOkB g h i j k l = pp at HP hno
  go_enter Try.func25, Try.ntmps25
  go_wp2_with fail
  refine (unhide HM _).mono ?_
  rintro r w1 ⟨rfl, hb1⟩
  have C1 := hide (below_ends (al3_below _ _ _ _) hb1 (by rw [al3_size]; omega))
  obtain ⟨p0, p1, p2, p3, p4, p5, hp⟩ := cells6 hb1 (al3_1 _ _ _ _) (by rw [al3_size]; omega)
  obtain ⟨r0, r1, r2, r3, r4, r5, hr⟩ := cells6 hb1 (al3_2 _ _ _ _) (by rw [al3_size]; omega)
  obtain ⟨f0, f1, f2, f3, f4, f5⟩ := free6 hr
  have hs : w.heap.size + 3 ≤ w1.heap.size := by have := hb1.size; rw [al3_size] at this; exact this
  have HR := hide hr
  clear hb1 hp hr
  cases pm
  · go_wp2_with fail
    refine bodyPost_ret (v := .tuple #[.agg #[.int .i64 0, .int .i64 0, .int .i64 0, .int .i64 0, .int .i64 0, .int .i64 0], .bool false]) (by simp [results, Try.results25, go_sem, r0, r1, r2, r3, r4, r5]) rfl ⟨rfl, ?_⟩
    exact below_put6 (unhide C1) (by omega) _ _ _ _ _ _
  · obtain rfl : pp = false := by simpa using hno
    go_wp2_with fail
    refine (unhide HP _).mono ?_
    rintro r w2 ⟨rfl, hb2⟩
    have C2 := hide (below_ends (unhide C1) hb2 (by omega))
    clear r0 r1 r2 r3 r4 r5 f0 f1 f2 f3 f4 f5
    obtain ⟨r0, r1, r2, r3, r4, r5, hr⟩ := cells6 hb2 (unhide HR) (by omega)
    obtain ⟨f0, f1, f2, f3, f4, f5⟩ := free6 hr
    clear hb2 hr
    go_wp2_with fail
    refine bodyPost_ret (v := .tuple #[.agg #[.int .i64 0, .int .i64 0, .int .i64 0, .int .i64 0, .int .i64 0, .int .i64 0], .bool false]) (by simp [results, Try.results25, go_sem, r0, r1, r2, r3, r4, r5]) rfl ⟨rfl, ?_⟩
    exact below_put6 (unhide C2) (by omega) _ _ _ _ _ _

set_option maxHeartbeats 4000000 in
set_option maxRecDepth 100000 in
theorem specCompose_yes (a b c d e f g h i j k l : Int) (hm : matOkB a b c d e f = true) (hn : matOkB g h i j k l = true) (w : World) :
    Calls Try.prog 25 #[.agg #[.int .i64 a, .int .i64 b, .int .i64 c, .int .i64 d, .int .i64 e, .int .i64 f], .agg #[.int .i64 g, .int .i64 h, .int .i64 i, .int .i64 j, .int .i64 k, .int .i64 l]] w fun r w' => r = .returned (compV a b c d e f g h i j k l) ∧ Below w.heap.size w w' := by
  have HM := hide (specMatOk_any a b c d e f)
  have HP := hide (specMatOk_any g h i j k l)
  rw [hm] at HM
  rw [hn] at HP
  obtain ⟨⟨a1, a2⟩, ⟨b1, b2⟩, ⟨c1, c2⟩, ⟨d1, d2⟩, ⟨e1, e2⟩, ⟨f1, f2⟩⟩ := mat_bd hm
  obtain ⟨⟨g1, g2⟩, ⟨h1, h2⟩, ⟨i1, i2⟩, ⟨j1, j2⟩, ⟨k1, k2⟩, ⟨l1, l2⟩⟩ := mat_bd hn
  clear hm hn
  obtain ⟨ag1, ag2⟩ := mul_bd a1 a2 g1 g2
  obtain ⟨ch1, ch2⟩ := mul_bd c1 c2 h1 h2
  obtain ⟨bg1, bg2⟩ := mul_bd b1 b2 g1 g2
  obtain ⟨dh1, dh2⟩ := mul_bd d1 d2 h1 h2
  obtain ⟨ai1, ai2⟩ := mul_bd a1 a2 i1 i2
  obtain ⟨cj1, cj2⟩ := mul_bd c1 c2 j1 j2
  obtain ⟨bi1, bi2⟩ := mul_bd b1 b2 i1 i2
  obtain ⟨dj1, dj2⟩ := mul_bd d1 d2 j1 j2
  obtain ⟨ak1, ak2⟩ := mul_bd a1 a2 k1 k2
  obtain ⟨cl1, cl2⟩ := mul_bd c1 c2 l1 l2
  obtain ⟨bk1, bk2⟩ := mul_bd b1 b2 k1 k2
  obtain ⟨dl1, dl2⟩ := mul_bd d1 d2 l1 l2
  have HA := hide (specRoundDiv_any (a * g + c * h) 65536 (by omega) (by omega) (by omega))
  have EA : Hid (rdivI (a * g + c * h) 65536 = crossI a g c h) := rfl
  obtain ⟨qA1, qA2⟩ := rdiv_bd (n := a * g + c * h) (m := 17592186044416) (by omega) (by omega)
  generalize rdivI (a * g + c * h) 65536 = qA at HA EA qA1 qA2
  have HB := hide (specRoundDiv_any (b * g + d * h) 65536 (by omega) (by omega) (by omega))
  have EB : Hid (rdivI (b * g + d * h) 65536 = crossI b g d h) := rfl
  obtain ⟨qB1, qB2⟩ := rdiv_bd (n := b * g + d * h) (m := 17592186044416) (by omega) (by omega)
  generalize rdivI (b * g + d * h) 65536 = qB at HB EB qB1 qB2
  have HC := hide (specRoundDiv_any (a * i + c * j) 65536 (by omega) (by omega) (by omega))
  have EC : Hid (rdivI (a * i + c * j) 65536 = crossI a i c j) := rfl
  obtain ⟨qC1, qC2⟩ := rdiv_bd (n := a * i + c * j) (m := 17592186044416) (by omega) (by omega)
  generalize rdivI (a * i + c * j) 65536 = qC at HC EC qC1 qC2
  have HD := hide (specRoundDiv_any (b * i + d * j) 65536 (by omega) (by omega) (by omega))
  have ED : Hid (rdivI (b * i + d * j) 65536 = crossI b i d j) := rfl
  obtain ⟨qD1, qD2⟩ := rdiv_bd (n := b * i + d * j) (m := 17592186044416) (by omega) (by omega)
  generalize rdivI (b * i + d * j) 65536 = qD at HD ED qD1 qD2
  have HE := hide (specRoundDiv_any (a * k + c * l) 65536 (by omega) (by omega) (by omega))
  have EE : Hid (rdivI (a * k + c * l) 65536 = crossI a k c l) := rfl
  obtain ⟨qE1, qE2⟩ := rdiv_bd (n := a * k + c * l) (m := 17592186044416) (by omega) (by omega)
  generalize rdivI (a * k + c * l) 65536 = qE at HE EE qE1 qE2
  have HF := hide (specRoundDiv_any (b * k + d * l) 65536 (by omega) (by omega) (by omega))
  have EF : Hid (rdivI (b * k + d * l) 65536 = crossI b k d l) := rfl
  obtain ⟨qF1, qF2⟩ := rdiv_bd (n := b * k + d * l) (m := 17592186044416) (by omega) (by omega)
  generalize rdivI (b * k + d * l) 65536 = qF at HF EF qF1 qF2
  have u1 : IntKind.i64.wrap (a * k) = a * k := IntWalk.i64_in _ (by omega)
  have u2 : IntKind.i64.wrap (c * l) = c * l := IntWalk.i64_in _ (by omega)
  have u3 : IntKind.i64.wrap (a * k + c * l) = a * k + c * l := IntWalk.i64_in _ (by omega)
  have u4 : IntKind.i64.wrap (qE + e) = qE + e := IntWalk.i64_in _ (by omega)
  have u5 : IntKind.i64.wrap (b * k) = b * k := IntWalk.i64_in _ (by omega)
  have u6 : IntKind.i64.wrap (d * l) = d * l := IntWalk.i64_in _ (by omega)
  have u7 : IntKind.i64.wrap (b * k + d * l) = b * k + d * l := IntWalk.i64_in _ (by omega)
  have u8 : IntKind.i64.wrap (qF + f) = qF + f := IntWalk.i64_in _ (by omega)
  have HO := hide (specMatOk_any qA qB qC qD (qE + e) (qF + f))
  have EO : Hid (matOkB qA qB qC qD (qE + e) (qF + f) = matOkB (crossI a g c h) (crossI b g d h) (crossI a i c j) (crossI b i d j) (crossI a k c l + e) (crossI b k d l + f)) := by unfold Hid; rw [unhide EA, unhide EB, unhide EC, unhide ED, unhide EE, unhide EF]
  generalize matOkB qA qB qC qD (qE + e) (qF + f) = po at HO EO
  go_enter Try.func25, Try.ntmps25
  go_wp2_with fail
  refine (unhide HM _).mono ?_
  rintro r w1 ⟨rfl, hb1⟩
  have C1 := hide (below_ends (al3_below _ _ _ _) hb1 (by rw [al3_size]; omega))
  obtain ⟨_, _, _, _, _, _, hm⟩ := cells6 hb1 (al3_0 _ _ _ _) (by rw [al3_size]; omega)
  obtain ⟨p0, p1, p2, p3, p4, p5, hp⟩ := cells6 hb1 (al3_1 _ _ _ _) (by rw [al3_size]; omega)
  obtain ⟨_, _, _, _, _, _, hr⟩ := cells6 hb1 (al3_2 _ _ _ _) (by rw [al3_size]; omega)
  have hs : w.heap.size + 3 ≤ w1.heap.size := by have := hb1.size; rw [al3_size] at this; exact this
  have H1 := hide (And.intro hm (And.intro hp hr))
  clear hb1 hp hr hm
  go_wp2_with fail
  refine (unhide HP _).mono ?_
  rintro r w2 ⟨rfl, hb2⟩
  clear p0 p1 p2 p3 p4 p5
  have C2 := hide (below_ends (unhide C1) hb2 (by omega))
  obtain ⟨m0, m1, m2, m3, m4, m5, _⟩ := cells6 hb2 (unhide H1).1 (by omega)
  obtain ⟨p0, p1, p2, p3, p4, p5, _⟩ := cells6 hb2 (unhide H1).2.1 (by omega)
  obtain ⟨r0, r1, r2, r3, r4, r5, hr⟩ := cells6 hb2 (unhide H1).2.2 (by omega)
  obtain ⟨g0, g1, g2, g3, g4, g5⟩ := free6 hr
  have hs2 : w.heap.size + 3 ≤ w2.heap.size := Nat.le_trans hs hb2.size
  obtain ⟨s0, s1, s2, s3, s4, s5⟩ := past6 (by omega) m0 m1 m2 m3 m4 m5
  obtain ⟨t0, t1, t2, t3, t4, t5⟩ := past6 (by omega) p0 p1 p2 p3 p4 p5
  have HR := hide hr
  clear hb2 hr
  go_wp2_with fail
  refine (unhide HA _).mono ?_
  rintro r w3 ⟨rfl, rfl⟩
  go_wp2_with fail
  refine (unhide HB _).mono ?_
  rintro r w3 ⟨rfl, rfl⟩
  go_wp2_with fail
  refine (unhide HC _).mono ?_
  rintro r w3 ⟨rfl, rfl⟩
  go_wp2_with fail
  refine (unhide HD _).mono ?_
  rintro r w3 ⟨rfl, rfl⟩
  go_wp2_with fail
  go_region_held3 (fun u => u.cell? ⟨w.heap.size, 0, none⟩ = some (.int .i64 a) ∧ u.cell? ⟨w.heap.size + 1, 4, none⟩ = some (.int .i64 k) ∧ u.cell? ⟨w.heap.size, 2, none⟩ = some (.int .i64 c) ∧ u.cell? ⟨w.heap.size + 1, 5, none⟩ = some (.int .i64 l) ∧ u.cell? ⟨w.heap.size, 4, none⟩ = some (.int .i64 e)) (go_keep) (first | (go_at_call 31; refine (unhide HE _).mono ?_; rintro r w3 ⟨rfl, rfl⟩))
  go_wp2_with fail
  go_region_held3 (fun u => u.cell? ⟨w.heap.size, 1, none⟩ = some (.int .i64 b) ∧ u.cell? ⟨w.heap.size + 1, 4, none⟩ = some (.int .i64 k) ∧ u.cell? ⟨w.heap.size, 3, none⟩ = some (.int .i64 d) ∧ u.cell? ⟨w.heap.size + 1, 5, none⟩ = some (.int .i64 l) ∧ u.cell? ⟨w.heap.size, 5, none⟩ = some (.int .i64 f)) (go_keep) (first | (go_at_call 31; refine (unhide HF _).mono ?_; rintro r w3 ⟨rfl, rfl⟩))
  go_wp2_with fail
  refine (unhide HO _).mono ?_
  rintro r w3 ⟨rfl, hb3'⟩
  have hb3 := below_undrew (below_undrew hb3')
  have C3 := hide (below_ends ((unhide C2).alloc (by omega) _) hb3 (by rw [al1_size]; omega))
  obtain ⟨o0, o1, o2, o3, o4, o5, _⟩ := cells6 hb3 (al1_0 _ _) (by rw [al1_size]; omega)
  obtain ⟨r0, r1, r2, r3, r4, r5, hr⟩ := cells6 hb3 ((heap_alloc_old _ _ (by omega)).trans (unhide HR)) (by rw [al1_size]; omega)
  obtain ⟨v0, v1, v2, v3, v4, v5⟩ := free6 hr
  clear hb3 hb3' hr s0 s1 s2 s3 s4 s5 t0 t1 t2 t3 t4 t5 u1 u2 u3 u4 u5 u6 u7 u8
  cases po
  · have HV : Hid (compV a b c d e f g h i j k l = .tuple #[.agg #[.int .i64 0, .int .i64 0, .int .i64 0, .int .i64 0, .int .i64 0, .int .i64 0], .bool false]) := by unfold Hid compV; rw [← unhide EO]; rfl
    go_wp2_with fail
    refine bodyPost_ret (v := .tuple #[.agg #[.int .i64 0, .int .i64 0, .int .i64 0, .int .i64 0, .int .i64 0, .int .i64 0], .bool false]) (by simp [results, Try.results25, go_sem, r0, r1, r2, r3, r4, r5]) rfl ⟨by rw [unhide HV], ?_⟩
    exact below_put6 (unhide C3) (by omega) _ _ _ _ _ _
  · have HV : Hid (compV a b c d e f g h i j k l = .tuple #[.agg #[.int .i64 qA, .int .i64 qB, .int .i64 qC, .int .i64 qD, .int .i64 (qE + e), .int .i64 (qF + f)], .bool true]) := by unfold Hid compV; rw [← unhide EO, unhide EA, unhide EB, unhide EC, unhide ED, unhide EE, unhide EF]; rfl
    go_wp2_with fail
    refine bodyPost_ret (v := .tuple #[.agg #[.int .i64 qA, .int .i64 qB, .int .i64 qC, .int .i64 qD, .int .i64 (qE + e), .int .i64 (qF + f)], .bool true]) (by simp [results, Try.results25, go_sem, r0, r1, r2, r3, r4, r5]) rfl ⟨by rw [unhide HV], ?_⟩
    exact below_put6 (unhide C3) (by omega) _ _ _ _ _ _
end Go.Proofs.Ytaaeegahlpmhpaa
