/-
  The walk of the law on paths and their texts.
-/
import Derived.Test.YtkhacppaemilgaaDoorDrawQ
import Derived.Test.YtkhacppaemilgaaDoorParseI
import Derived.Test.YtkhacppaemilgaaDoorDrawP
import Derived.Deep.DeepFit
namespace Go.Proofs.YtkhacppaemilgaaDoor
open Go.RowKit
set_option linter.unusedVariables false

theorem right_bool (vf : Nat → Int) (n : Nat) (pf : Nat → Int × Int) (m : Nat) : ∃ x : Bool, x = true ↔ Right vf n pf m := by
  by_cases h : Right vf n pf m
  · exact ⟨true, fun _ => h, fun _ => rfl⟩
  · exact ⟨false, fun e => (by cases e), fun e => absurd e h⟩


set_option maxHeartbeats 8000000 in
set_option maxRecDepth 100000 in
theorem fnPaths_walk (a0 : Option Addr) (len0 cap0 : Nat) (z0 : List Int) (w : World) (w0 : IsRow .u8 w a0 len0 cap0 z0) (hP : Pow w) (T : Tabs w) :
    Calls Tryd.prog 3 #[.slice a0 len0 cap0] w fun e w' => e = .returned (.bool true) ∧ Below w.heap.size w w' := by
  by_cases hl : len0 ≤ 1048576
  · have HI := hide (InB.of_row w0)
    clear w0
    replace hP := hide hP
    replace T := hide T
    go_enter Tryd.func3, Tryd.ntmps3
    go_wp2_with fail
    refine (big_no a0 len0 cap0 hl _).mono ?_
    rintro r w1 ⟨rfl, rfl⟩
    have EI := hide (fun (u : World) (hu : Below w1.heap.size w1 u) (s : ByteArray) (hs : s.size ≤ 1048576) => implParsePath_any s hs u ((unhide T).next hu) (tab_below pow10_at (unhide hP) hu))
    have ET := hide (fun (u : World) (hu : Below w1.heap.size w1 u) (vf : Nat → Int) (pf : Nat → Int × Int) (a b : Option Addr) (n c m d : Nat) (hn : n ≤ 1048576) (hm : m ≤ 1048576) (hd : m ≤ d) (x : Bool) (hx : x = true ↔ Right vf n pf m) V P => implPathText_any vf pf a b n c m d hn hm hd u x hx V P (tab_below pow10_at (unhide hP) hu))
    have EQ := hide (fun (u : World) (hu : Below w1.heap.size w1 u) => drawParsePath_any a0 len0 cap0 u hl ((unhide HI).next hu))
    clear hP T
    go_wp2_with fail
    refine (drawPathText_any a0 len0 cap0 _ hl (unhide HI)).mono ?_
    rintro r w2 ⟨v1, v2, rfl, hd, hb2⟩
    clear HI
    obtain ⟨a1, n, c1, a2, m, c2, rfl, rfl, hn, hm, hmd, hI, hPp⟩ := hd
    obtain ⟨vf, V⟩ := hI.pick
    obtain ⟨pf, P⟩ := hPp.pick
    obtain ⟨x, hx⟩ := right_bool vf n pf m
    have hT := pathT_small hx
    replace hx := hide hx
    have HB := hide hb2
    clear hI hPp hb2
    replace V := hide V
    replace P := hide P
    go_wp2_with fail
    obtain ⟨W3, hW⟩ : ∃ W, W = w2.alloc (.cells #[.slice a1 n c1, .slice a2 m c2] 27) := ⟨_, rfl⟩
    have hbn := hide (show Below w2.heap.size w2 W3 by rw [hW]; exact al1_below _ _)
    have R := hide (show W3.heap[w2.heap.size]? = some (.cells #[.slice a1 n c1, .slice a2 m c2] 27 (0, 0)) by rw [hW]; exact new_row _ _)
    rw [← hW]
    clear hW
    replace V := hide (fun i hi => (unhide V i hi).next (unhide hbn))
    replace P := hide (fun i hi => (unhide P i hi).next (unhide hbn))
    replace HB := hide (below_two (unhide HB) (unhide hbn))
    clear hbn
    go_fit (unhide ET _ (unhide HB) vf pf a1 a2 n c1 m c2 (by omega) (by omega) hmd x (unhide hx) (unhide V) (unhide P))
    rintro r w4 ⟨rfl, hb⟩
    replace R := hide (row_next hb (unhide R))
    replace V := hide (fun i hi => (unhide V i hi).next hb)
    replace P := hide (fun i hi => (unhide P i hi).next hb)
    replace HB := hide (below_two (unhide HB) hb)
    clear hb
    obtain ⟨s, hs⟩ : ∃ s : ByteArray, Hid (s = ⟨(pathT x vf pf n).toArray⟩) := ⟨_, rfl⟩
    rw [← unhide hs]
    have hsz : s.size ≤ 2000 := by rw [unhide hs, size_mk]; exact hT
    go_wp2_with fail
    go_fit (unhide EI _ (unhide HB) s (by omega))
    intro r w5 hres
    obtain ⟨ok, vs, ps, hF, b1, d1, b2, d2, rfl, hp, hb⟩ := ParseRes.first hres
    have hsame : Hid (x = true → ok = true ∧ n = vs.length ∧ m = ps.length ∧ (∀ j, j < n → vf j = listI vs j) ∧ ∀ j, j < m → pf j = listP ps j) := fun h1 => by
      have hR := (unhide hx).1 h1
      have ht : textN vf pf n = s.data.toList := by rw [unhide hs, h1]; show _ = (textN vf pf n).toArray.toList; simp
      rcases hF with ⟨h2, _, _, hq⟩ | ⟨_, _, _, hq⟩
      · exact ⟨h2, hq vf n pf m hR ht⟩
      · exact (hq vf n pf m hR ht).elim
    have hsm := hF.small
    replace R := hide (row_next hb (unhide R))
    replace V := hide (fun i hi => (unhide V i hi).next hb)
    replace P := hide (fun i hi => (unhide P i hi).next hb)
    replace HB := hide (below_two (unhide HB) hb)
    have Y := hide hp
    clear hres hF hb hp
    obtain ⟨N, hN⟩ : ∃ N, Hid (N = vs.length) := ⟨_, rfl⟩
    obtain ⟨M, hM⟩ : ∃ M, Hid (M = ps.length) := ⟨_, rfl⟩
    rw [← unhide hN, ← unhide hM] at hsame Y
    rw [← unhide hN, ← unhide hM]
    have hN24 : N ≤ 24 := by rw [unhide hN]; exact hsm.1
    have hM24 : M ≤ 24 := by rw [unhide hM]; exact hsm.2
    clear hsm
    go_upto_region 6 with fail
    obtain ⟨V5, hW⟩ : ∃ W, W = w5.alloc (.cells #[.slice b1 N d1, .slice b2 M d2] 27) := ⟨_, rfl⟩
    have hbn := hide (show Below w5.heap.size w5 V5 by rw [hW]; exact al1_below _ _)
    have S := hide (show V5.heap[w5.heap.size]? = some (.cells #[.slice b1 N d1, .slice b2 M d2] 27 (0, 0)) by rw [hW]; exact new_row _ _)
    rw [← hW]
    clear hW
    replace R := hide (row_next (unhide hbn) (unhide R))
    replace V := hide (fun i hi => (unhide V i hi).next (unhide hbn))
    replace P := hide (fun i hi => (unhide P i hi).next (unhide hbn))
    replace HB := hide (below_two (unhide HB) (unhide hbn))
    replace Y := hide ((unhide Y).next (unhide hbn))
    clear hbn
    go_cut [51] (fun s u => s = .bool false ∧ Hid (Below V5.heap.size V5 u))
    case first =>
      have HV := hide (Below.refl V5.heap.size V5)
      obtain ⟨r0, r1⟩ := row2 (unhide R)
      go_wp2_with fail
      clear r0 r1
      go_fit (specPathOk_any vf pf a1 a2 n c1 m c2 (by omega) (by omega) _ x (unhide hx) (unhide V) (unhide P))
      rintro r w6 ⟨rfl, hb⟩
      replace R := hide (row_next hb (unhide R))
      replace S := hide (row_next hb (unhide S))
      replace V := hide (fun i hi => (unhide V i hi).next hb)
      replace P := hide (fun i hi => (unhide P i hi).next hb)
      replace HB := hide (below_two (unhide HB) hb)
      replace HV := hide (below_two (unhide HV) hb)
      replace Y := hide ((unhide Y).next hb)
      clear hb
      have hxx : (x != x) = false := by simp
      obtain ⟨r0, r1⟩ := row2 (unhide R)
      go_wp2_with fail
      clear r0 r1
      go_fit (implPathOk_any vf pf a1 a2 n c1 m c2 (by omega) (by omega) _ x (unhide hx) (unhide V) (unhide P))
      rintro r w7 ⟨rfl, hb⟩
      replace R := hide (row_next hb (unhide R))
      replace S := hide (row_next hb (unhide S))
      replace V := hide (fun i hi => (unhide V i hi).next hb)
      replace P := hide (fun i hi => (unhide P i hi).next hb)
      replace HB := hide (below_two (unhide HB) hb)
      replace HV := hide (below_two (unhide HV) hb)
      replace Y := hide ((unhide Y).next hb)
      clear hb
      have hmid : Hid (∀ (u : World), Below w7.heap.size w7 u → x = true → Calls Tryd.prog 11 #[.agg #[.slice b1 N d1, .slice b2 M d2], .agg #[.slice a1 n c1, .slice a2 m c2]] u fun r w' => r = .returned (.bool true) ∧ Below u.heap.size u w') := fun u hu h1 => by
        obtain ⟨_, e1, e2, e3, e4⟩ := unhide hsame h1
        subst e1 e2
        exact samePath_any vf pf b1 b2 a1 a2 n m d1 d2 c1 c2 (by omega) (by omega) u (fun i hi => by rw [e3 i hi]; exact ((unhide Y).ints i hi).next hu) (fun i hi => by rw [e4 i hi]; exact ((unhide Y).pts i hi).next hu) (fun i hi => (unhide V i hi).next hu) (fun i hi => (unhide P i hi).next hu)
      obtain ⟨r0, r1⟩ := row2 (unhide R)
      obtain ⟨s0, s1⟩ := row2 (unhide S)
      clear hxx EI ET EQ hsz hT
      cases x with
      | false =>
        clear hmid hsame
        go_wp2_with fail
        go_meet
        exact ⟨rfl, unhide HV⟩
      | true =>
        obtain ⟨hok, hrest⟩ := unhide hsame rfl
        clear hrest
        subst hok
        have E9 := hide (unhide hmid _ (Below.refl _ _) rfl)
        clear hmid hsame
        go_wp2_with fail
        go_fit (unhide E9)
        rintro r w8 ⟨rfl, hb⟩
        replace HV := hide (below_two (unhide HV) hb)
        clear hb
        go_wp2_with fail
        go_meet
        exact ⟨rfl, unhide HV⟩
    case rest =>
      obtain ⟨rfl, hbc⟩ := hcut
      replace HB := hide (below_two (unhide HB) (unhide hbc))
      clear hbc R S V P Y hsame hs hsz hT hx
      go_wp2_with fail
      go_fit (unhide EQ _ (unhide HB))
      rintro r w9 ⟨t, htz, rfl, hb⟩
      replace HB := hide (below_two (unhide HB) hb)
      clear hb EQ
      go_wp2_with fail
      go_fit (unhide EI _ (unhide HB) t (by omega))
      intro r wA hres
      obtain ⟨ok2, vs2, ps2, hF, b3, d3, b4, d4, rfl, hp, hb⟩ := ParseRes.first hres
      clear hres EI
      replace HB := hide (below_two (unhide HB) hb)
      have Y := hide hp
      clear hb hp
      have hsm := hF.small
      obtain ⟨x2, hx2⟩ := right_bool (listI vs2) vs2.length (listP ps2) ps2.length
      have hag : Hid (ok2 = true → pathT x2 (listI vs2) (listP ps2) vs2.length = t.data.toList) := fun h1 => by
        rcases hF with ⟨_, h2, h3, _⟩ | ⟨h2, _⟩
        · have e : x2 = true := hx2.2 h2
          rw [e]; exact h3
        · rw [h1] at h2; cases h2
      have G := hide (fun (u : World) r u' (h : ParseRes u r u' t.data.toList) => ParseRes.again hF h)
      clear hF
      obtain ⟨N2, hN2⟩ : ∃ N, Hid (N = vs2.length) := ⟨_, rfl⟩
      obtain ⟨M2, hM2⟩ : ∃ M, Hid (M = ps2.length) := ⟨_, rfl⟩
      rw [← unhide hN2, ← unhide hM2] at Y G hx2
      rw [← unhide hN2] at hag
      replace hx2 := hide hx2
      rw [← unhide hN2, ← unhide hM2]
      have hN24' : N2 ≤ 24 := by rw [unhide hN2]; exact hsm.1
      have hM24' : M2 ≤ 24 := by rw [unhide hM2]; exact hsm.2
      clear hsm
      go_wp2_with fail
      obtain ⟨VB, hW⟩ : ∃ W, W = wA.alloc (.cells #[.slice b3 N2 d3, .slice b4 M2 d4] 27) := ⟨_, rfl⟩
      have hbn := hide (show Below wA.heap.size wA VB by rw [hW]; exact al1_below _ _)
      have S := hide (show VB.heap[wA.heap.size]? = some (.cells #[.slice b3 N2 d3, .slice b4 M2 d4] 27 (0, 0)) by rw [hW]; exact new_row _ _)
      rw [← hW]
      clear hW
      replace HB := hide (below_two (unhide HB) (unhide hbn))
      replace Y := hide ((unhide Y).next (unhide hbn))
      clear hbn
      go_fit (specParsePath_any t (by omega) _)
      intro r wC hres
      obtain ⟨b5, d5, b6, d6, rfl, _, hb⟩ := unhide G _ _ _ hres
      clear hres G
      replace HB := hide (below_two (unhide HB) hb)
      replace Y := hide ((unhide Y).next hb)
      replace S := hide (row_next hb (unhide S))
      clear hb
      obtain ⟨s0, s1⟩ := row2 (old_row (.cells #[.slice b5 N2 d5, .slice b6 M2 d6] 27) (unhide S))
      go_wp2_with fail
      clear s0 s1
      obtain ⟨VD, hW⟩ : ∃ W, W = wC.alloc (.cells #[.slice b5 N2 d5, .slice b6 M2 d6] 27) := ⟨_, rfl⟩
      have hbn := hide (show Below wC.heap.size wC VD by rw [hW]; exact al1_below _ _)
      rw [← hW]
      clear hW
      replace HB := hide (below_two (unhide HB) (unhide hbn))
      replace Y := hide ((unhide Y).next (unhide hbn))
      clear hbn S
      go_fit (unhide ET _ (unhide HB) (listI vs2) (listP ps2) b3 b4 N2 d3 M2 d4 (by omega) (by omega) (unhide Y).capP x2 (unhide hx2) (unhide Y).ints (unhide Y).pts)
      rintro r wE ⟨rfl, hb⟩
      replace HB := hide (below_two (unhide HB) hb)
      clear hb Y hx2 ET
      generalize pathT x2 (listI vs2) (listP ps2) N2 = l2 at hag ⊢
      have ok22 : (ok2 == ok2) = true := by simp
      have NE := hide (fun z u => implNeedOf_any z u)
      have n3 : needI 4 = 3 := rfl
      have n9 : needI 9 = -1 := rfl
      cases ok2 with
      | false =>
        go_wp2_with fail
        go_fit (unhide NE 4 _)
        rintro r wF ⟨rfl, hb⟩
        replace HB := hide (below_two (unhide HB) hb)
        clear hb
        rw [n3]
        go_wp2_with fail
        go_fit (unhide NE 9 _)
        rintro r wG ⟨rfl, hb⟩
        replace HB := hide (below_two (unhide HB) hb)
        clear hb
        rw [n9]
        go_wp2_with fail
        go_ret
        exact ⟨rfl, unhide HB⟩
      | true =>
        have he : (l2 == t.toList) = true := by rw [ByteArray.toList_eq]; simpa using unhide hag rfl
        go_wp2_with fail
        go_fit (unhide NE 4 _)
        rintro r wF ⟨rfl, hb⟩
        replace HB := hide (below_two (unhide HB) hb)
        clear hb
        rw [n3]
        go_wp2_with fail
        go_fit (unhide NE 9 _)
        rintro r wG ⟨rfl, hb⟩
        replace HB := hide (below_two (unhide HB) hb)
        clear hb
        rw [n9]
        go_wp2_with fail
        go_ret
        exact ⟨rfl, unhide HB⟩
  · go_enter Tryd.func3, Tryd.ntmps3
    go_wp2_with (go_at_call 5; go_must (refine (big_yes a0 len0 cap0 hl _).mono ?_); rintro e w1 ⟨rfl, rfl⟩)
    go_ret
    exact ⟨rfl, Below.refl _ _⟩
end Go.Proofs.YtkhacppaemilgaaDoor
