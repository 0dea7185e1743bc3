/-
  The specification's PathText.
-/
import Derived.Test.YtkhacppaemilgaaDoorPathV
import Derived.Test.YtkhacppaemilgaaDoorPathT
import Derived.Test.YtkhacppaemilgaaDoorDecW
import Derived.Test.YtkhacppaemilgaaDoorQuietIn
import Derived.Deep.DeepCutAuto
namespace Go.Proofs.YtkhacppaemilgaaDoor
open Go.RowKit

def pathT (x : Bool) (vf : Nat → Int) (pf : Nat → Int × Int) (n : Nat) : List UInt8 := bif x then textN vf pf n else []
theorem str_app (a b : ByteArray) : (a ++ b).data.toList = a.data.toList ++ b.data.toList := by simp [ByteArray.data_append]
theorem str_of {T : ByteArray} {l : List UInt8} (h : T.data.toList = l) : T = ⟨l.toArray⟩ := by
  obtain ⟨d⟩ := T
  have : d.toList = l := h
  rw [← this, Array.toArray_toList]
/-- The word of a verb as a value. -/
theorem word_at {w : World} {b : Nat} {t : TypeId} (h : w.heap[b]? = some (.cells #[.string ⟨#[77]⟩, .string ⟨#[76]⟩, .string ⟨#[81]⟩, .string ⟨#[67]⟩, .string ⟨#[90]⟩] t (0, 0))) {z : Int} (hz : isVerb z) : w.cell? ⟨b, z.toNat - 1, none⟩ = some (.string ⟨#[wordB z]⟩) := by
  rcases verb_cases hz with rfl | rfl | rfl | rfl | rfl <;> exact row_at h rfl

set_option maxHeartbeats 8000000 in
set_option maxRecDepth 100000 in
theorem specPathText_any (vf : Nat → Int) (pf : Nat → Int × Int) (a b : Option Addr) (n c m d : Nat) (hn : n ≤ 1048576) (hm : m ≤ 1048576) (w : World)
    (x : Bool) (hx : x = true ↔ Right vf n pf m) (V : ∀ i, i < n → IntAt w a i (vf i)) (P : ∀ i, i < m → PtArg w b i (pf i)) :
    Calls Tryd.prog 29 #[.agg #[.slice a n c, .slice b m d]] w fun r w' => r = .returned (.tuple #[.string ⟨(pathT x vf pf n).toArray⟩, .bool x]) ∧ Below w.heap.size w w' := by
  have EO := hide (fun u V P => specPathOk_any vf pf a b n c m d hn hm u x hx V P)
  replace V := hide V
  replace P := hide P
  go_enter Tryd.func29, Tryd.ntmps29
  go_wp2_with fail
  obtain ⟨W, hW⟩ : ∃ W, W = w.alloc (.cells #[.slice a n c, .slice b m d] 27) := ⟨_, rfl⟩
  have HB := hide (show Below w.heap.size w W by rw [hW]; exact al1_below _ _)
  have R0 := hide (show W.heap[w.heap.size]? = some (.cells #[.slice a n c, .slice b m d] 27 (0, 0)) by rw [hW]; exact al1_0 _ _)
  rw [← hW]
  clear hW
  go_fit (unhide EO _ (fun i hi => (unhide V i hi).next (unhide HB)) (fun i hi => (unhide P i hi).next (unhide HB)))
  rintro r w1 ⟨rfl, hb⟩
  replace HB := hide (below_two (unhide HB) hb)
  replace R0 := hide (row_next hb (unhide R0))
  clear hb EO
  cases x with
  | false =>
    go_wp2_with fail
    go_ret2
    exact ⟨rfl, unhide HB⟩
  | true =>
  have HR := hide (hx.1 rfl)
  clear hx
  have hn24 := (unhide HR).nv24
  have hm24 := (unhide HR).np24
  go_wp2_with fail
  obtain ⟨W2, hW⟩ : ∃ W, W = w1.alloc (.cells #[.string ⟨#[77]⟩, .string ⟨#[76]⟩, .string ⟨#[81]⟩, .string ⟨#[67]⟩, .string ⟨#[90]⟩] 9) := ⟨_, rfl⟩
  have hb2 := hide (show Below w1.heap.size w1 W2 by rw [hW]; exact al1_below _ _)
  have R1 := hide (show W2.heap[w1.heap.size]? = some (.cells #[.string ⟨#[77]⟩, .string ⟨#[76]⟩, .string ⟨#[81]⟩, .string ⟨#[67]⟩, .string ⟨#[90]⟩] 9 (0, 0)) by rw [hW]; exact al1_0 _ _)
  rw [← hW]
  clear hW
  replace HB := hide (below_two (unhide HB) (unhide hb2))
  replace R0 := hide (row_next (unhide hb2) (unhide R0))
  clear hb2
  generalize w1.heap.size = wb at R1 ⊢
  go_loopw [5, 6, 7] (fun s at_ i u => ∃ (k : Nat) (T : ByteArray), k ≤ n ∧ i = .int .i64 k ∧ at_ = .int .i64 (needN vf k : Nat) ∧ s = .string T ∧ Hid (T.data.toList = textN vf pf k) ∧ Below W2.heap.size W2 u) (fun _ _ i _ => n - (intOf i).toNat)
  case atStart => exact ⟨0, ⟨#[]⟩, Nat.zero_le _, rfl, rfl, rfl, rfl, Below.refl _ _⟩
  case round =>
    obtain ⟨k, T, hk, rfl, rfl, rfl, HT, hb⟩ := hrel
    by_cases hlt : k < n
    · have HZ := ((unhide V k hlt).next (unhide HB)).next hb
      have hvk := ((unhide HR).verbs k hlt).1
      have hsum : Hid (needN vf (k + 1) ≤ m) := by unfold Hid; rw [← (unhide HR).sum]; exact needN_mono vf hlt
      have hsum1 : Hid (needN vf (k + 1) = needN vf k + needK (vf k)) := rfl
      have htx : Hid (textN vf pf (k + 1) = textN vf pf k ++ (headT k ++ ([wordB (vf k)] ++ ptsT pf (needN vf k) (needK (vf k))))) := rfl
      have HZ2 := (unhide V k hlt).next (unhide HB)
      generalize vf k = z at HZ HZ2 hvk hsum1 htx
      obtain ⟨s, o, rfl, g0⟩ := HZ
      obtain ⟨s', o', e', gW⟩ := HZ2
      cases e'
      replace gW := hide gW
      obtain ⟨r0, r1⟩ := row2 (row_next hb (unhide R0))
      have wz := word_at (row_next hb (unhide R1)) hvk
      have hz1 : IntKind.i64.wrap (z - 1) = z - 1 := IntWalk.i64_in _ (by unfold isVerb at hvk; omega)
      have hz2 : 0 ≤ z - 1 := by unfold isVerb at hvk; omega
      have hz3 : z - 1 < 5 := by unfold isVerb at hvk; omega
      have hts : T.size ≤ 10000 := by
        have h1 := textN_len (vf := vf) (pf := pf) (m := m) (unhide HR).points (k := k) (by have := unhide hsum; rw [unhide hsum1] at this; omega)
        have h2 := needN_le vf k
        have h3 : T.size = T.data.toList.length := by rw [Array.length_toList]; rfl
        rw [h3, unhide HT]; omega
      have ad1 := fun w => run_string_add_sum (P := Tryd.prog) w T ⟨#[32]⟩ (by have : (⟨#[32]⟩ : ByteArray).size = 1 := rfl; omega)
      have E := hide (specNeedOf_any z)
      rw [needI_of hvk] at E
      have hkz := needK_le z
      replace hb := hide hb
      -- the text ahead of the verb's points
      obtain ⟨T1, hT1, hT1s⟩ : ∃ T1 : ByteArray, Hid (T1 = if k = 0 then T else T ++ ⟨#[32]⟩) ∧ T1.size ≤ 10001 := ⟨_, rfl, by
        split
        · omega
        · rw [ByteArray.size_append]; have : (⟨#[32]⟩ : ByteArray).size = 1 := rfl; omega⟩
      have ad2 := fun w => run_string_add_sum (P := Tryd.prog) w T1 ⟨#[wordB z]⟩ (by have : (⟨#[wordB z]⟩ : ByteArray).size = 1 := rfl; omega)
      have HT2 : Hid ((T1 ++ ⟨#[wordB z]⟩).data.toList = textN vf pf k ++ (headT k ++ [wordB z])) := by
        unfold Hid
        rw [str_app, unhide hT1]
        by_cases h0 : k = 0
        · subst h0
          rw [if_pos rfl, unhide HT]; rfl
        · rw [if_neg h0, str_app, unhide HT, List.append_assoc]
          simp [headT, h0]
      have hT2s : (T1 ++ ⟨#[wordB z]⟩ : ByteArray).size ≤ 10002 := by rw [ByteArray.size_append]; have : (⟨#[wordB z]⟩ : ByteArray).size = 1 := rfl; omega
      generalize hT2 : T1 ++ ⟨#[wordB z]⟩ = T2 at ad2 HT2 hT2s
      replace hT2 := hide hT2
      have hcase : (¬ (0 < (k : Int)) ∧ T = T1) ∨ (0 < (k : Int) ∧ T ++ ⟨#[32]⟩ = T1) := by
        have h := unhide hT1
        by_cases hk0 : k = 0
        · rw [if_pos hk0] at h; exact .inl ⟨by omega, h.symm⟩
        · rw [if_neg hk0] at h; exact .inr ⟨by omega, h.symm⟩
      clear hT1
      have HP0 := hide (fun j (hj : j < m) => ((unhide P j hj).next (unhide HB)))
      have HPk := hide (unhide HR).points
      have HN1 : Hid (needN vf k + needK z ≤ m) := by have := unhide hsum; rw [unhide hsum1] at this; exact this
      obtain ⟨N, hN⟩ : ∃ N, N = needN vf k := ⟨_, rfl⟩
      rw [← hN] at HN1 htx
      rw [← hN]
      replace hN := hide hN
      have hNm : N + needK z ≤ 24 := by have := unhide HN1; omega
      go_upto_if 21 with fail
      go_cut [5] (fun s u => s = .string T1 ∧ u = wr)
      case first =>
        clear ad2
        rcases hcase with ⟨hc1, hc2⟩ | ⟨hc1, hc2⟩
        all_goals
          subst hc2
          go_wp2_with fail
          go_meet
          exact ⟨rfl, rfl⟩
      case rest =>
        obtain ⟨rfl, rfl⟩ := hcut
        clear hcase ad1
        go_wp2_with fail
        clear ad2
        go_loopw [5, 6, 8] (fun s at_ i u => ∃ (j q : Nat) (U : ByteArray), j ≤ needK z ∧ i = .int .i64 j ∧ at_ = .int .i64 q ∧ Hid (q = N + j) ∧ s = .string U ∧ Hid (U.data.toList = textN vf pf k ++ (headT k ++ ([wordB z] ++ ptsT pf N j))) ∧ U.size ≤ 10002 + 46 * j ∧ Below W2.heap.size W2 u) (fun _ _ i _ => needK z - (intOf i).toNat)
        case atStart => exact ⟨0, N, T2, Nat.zero_le _, rfl, rfl, rfl, rfl, by show T2.data.toList = _; rw [show ptsT pf N 0 = [] from rfl, List.append_nil]; exact unhide HT2, by omega, unhide hb⟩
        case round =>
          clear g0 r0 r1 wz hb
          obtain ⟨j, q, U, hj, rfl, rfl, hq, rfl, HU, hUs, hb⟩ := hrel
          have g0 := kc hb (unhide gW)
          obtain ⟨r0, r1⟩ := row2 (row_next hb (unhide R0))
          replace hb := hide hb
          by_cases hjl : j < needK z
          · have hjl' : (j : Int) < (needK z : Int) := by omega
            go_wp2_with fail
            go_fit (unhide E _)
            rintro r w3 ⟨rfl, hb3⟩
            replace hb := hide (below_two (unhide hb) hb3)
            clear hb3 r0 r1 g0
            have hqm : q < m := by have h1 := unhide HN1; have h2 := unhide hq; omega
            have HQ := unhide HP0 q hqm
            have hok := unhide HPk q hqm
            have ept : Hid (ptsT pf N (j + 1) = ptsT pf N j ++ ptT (pf q)) := by unfold Hid; rw [unhide hq]; rfl
            generalize pf q = pt at HQ hok ept
            obtain ⟨x0, y0⟩ := pt
            obtain ⟨sp, op, rfl, p0, p1⟩ := HQ
            dsimp only at p0 p1
            obtain ⟨⟨hx1, hx2⟩, hy1, hy2⟩ := pt_range hok
            dsimp only at hx1 hx2 hy1 hy2
            have D0 := hide (specDecimal_any x0 (by omega) (by omega))
            have D1 := hide (specDecimal_any y0 (by omega) (by omega))
            have lx := itoa_len22 (n := x0) (by omega) (by omega)
            have ly := itoa_len22 (n := y0) (by omega) (by omega)
            have bX : (⟨(Lib.itoa x0).toArray⟩ : ByteArray).size ≤ 22 := by change (Lib.itoa x0).toArray.size ≤ 22; rw [List.size_toArray]; exact lx
            have bY : (⟨(Lib.itoa y0).toArray⟩ : ByteArray).size ≤ 22 := by change (Lib.itoa y0).toArray.size ≤ 22; rw [List.size_toArray]; exact ly
            have b1 : (⟨#[32]⟩ : ByteArray).size = 1 := rfl
            have eX : Hid ((⟨(Lib.itoa x0).toArray⟩ : ByteArray).data.toList = Lib.itoa x0) := by unfold Hid; simp
            have eY : Hid ((⟨(Lib.itoa y0).toArray⟩ : ByteArray).data.toList = Lib.itoa y0) := by unfold Hid; simp
            clear lx ly
            generalize (⟨(Lib.itoa x0).toArray⟩ : ByteArray) = X at D0 bX eX
            generalize (⟨(Lib.itoa y0).toArray⟩ : ByteArray) = Y at D1 bY eY
            have hkz' : j < 3 := by omega
            have a1 := fun w => run_string_add_sum (P := Tryd.prog) w U ⟨#[32]⟩ (by omega)
            have s1 : (U ++ ⟨#[32]⟩ : ByteArray).size ≤ 10003 + 46 * j := by rw [ByteArray.size_append]; omega
            obtain ⟨U1, hU1⟩ : ∃ U1, U ++ ⟨#[32]⟩ = U1 := ⟨_, rfl⟩
            rw [hU1] at a1 s1
            have a2 := fun w => run_string_add_sum (P := Tryd.prog) w U1 X (by omega)
            have s2 : (U1 ++ X).size ≤ 10025 + 46 * j := by rw [ByteArray.size_append]; omega
            obtain ⟨U2, hU2⟩ : ∃ U2, U1 ++ X = U2 := ⟨_, rfl⟩
            rw [hU2] at a2 s2
            have a3 := fun w => run_string_add_sum (P := Tryd.prog) w U2 ⟨#[32]⟩ (by omega)
            have s3 : (U2 ++ ⟨#[32]⟩ : ByteArray).size ≤ 10026 + 46 * j := by rw [ByteArray.size_append]; omega
            obtain ⟨U3, hU3⟩ : ∃ U3, U2 ++ ⟨#[32]⟩ = U3 := ⟨_, rfl⟩
            rw [hU3] at a3 s3
            have a4 := fun w => run_string_add_sum (P := Tryd.prog) w U3 Y (by omega)
            have s4 : (U3 ++ Y).size ≤ 10048 + 46 * j := by rw [ByteArray.size_append]; omega
            obtain ⟨U4, hU4⟩ : ∃ U4, U3 ++ Y = U4 := ⟨_, rfl⟩
            rw [hU4] at a4 s4
            have HU4 : Hid (U4.data.toList = textN vf pf k ++ (headT k ++ ([wordB z] ++ ptsT pf N (j + 1)))) := by
              unfold Hid
              rw [← hU4, ← hU3, ← hU2, ← hU1, str_app, str_app, str_app, str_app, unhide eX, unhide eY, unhide HU, unhide ept]
              simp [ptT, List.append_assoc]
            clear hU1 hU2 hU3 hU4 eX eY ept HU
            go_wp2_with fail
            obtain ⟨I, F, hI, F1, F2⟩ := kept_worlds w3
            have m0 : ∀ i, (F i).cell? ⟨w.heap.size, 1, none⟩ = some (.slice (some ⟨sp, op, none⟩) m d) := fun i => (row2 (row_next (F2 i) (row_next (unhide hb) (unhide R0)))).2
            have m1 : ∀ i, (F i).cell? ⟨sp, op + q * 2, none⟩ = some (.int .i64 x0) := fun i => kc (F2 i) (kc (unhide hb) p0)
            have m2 : ∀ i, (F i).cell? ⟨sp, op + q * 2 + 1, none⟩ = some (.int .i64 y0) := fun i => kc (F2 i) (kc (unhide hb) p1)
            clear p0 p1
            replace F1 := hide F1
            replace F2 := hide F2
            refine wp_region_quiet_in (unhide F1) (by kernel_rfl) (by kernel_rfl) ?_
            repeat (go_big_quiet_step (first | with_reducible exact quiet_in (unhide F1) (unhide F2) (unhide D0 _) | with_reducible exact quiet_in (unhide F1) (unhide F2) (unhide D1 _)))
            refine wpQuiet_nil ?_
            rintro _ ⟨i, rfl⟩
            have hF := unhide F2 i
            clear F1 m0 m1 m2 a1 a2 a3 a4 s1 s2 s3
            have hb4 := hide (below_two (unhide hb) hF)
            clear hF F2
            go_wp2_with fail
            go_roundw
            case rel => exact ⟨j + 1, q + 1, U4, by omega, by go_num, by go_num, by have := unhide hq; show q + 1 = N + (j + 1); omega, rfl, HU4, by omega, unhide hb4⟩
            case measure => simp [intOf]; omega
          · have hje : j = needK z := by omega
            have hjl' : ¬ (j : Int) < (needK z : Int) := by omega
            go_wp2_with fail
            go_fit (unhide E _)
            rintro r w3 ⟨rfl, hb3⟩
            replace hb := hide (below_two (unhide hb) hb3)
            clear hb3 r0 r1 g0
            go_wp2_with fail
            go_roundw
            case rel => exact ⟨k + 1, U, by omega, by go_num, by rw [unhide hsum1, ← unhide hN, ← hje, ← unhide hq], rfl, by have := unhide HU; rw [hje] at this; show U.data.toList = _; rw [unhide htx]; exact this, unhide hb⟩
            case measure => simp [intOf]; omega
    · have hke : k = n := by omega
      subst hke
      obtain ⟨r0, r1⟩ := row2 (row_next hb (unhide R0))
      replace hb := hide hb
      go_wp2_with fail
      go_ret2
      refine ⟨?_, below_two (unhide HB) (unhide hb)⟩
      rw [str_of (unhide HT)]
      rfl
end Go.Proofs.YtkhacppaemilgaaDoor
