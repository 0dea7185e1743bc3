/-
  SceneS · SceneK · SceneU · TreesP · StandP · PaintI · PaintJ · ModeI · NodeI · SceneI · SceneJ · ScenesP · UnderZ · MatP · MatC · LineB · CurveS: texts of one claim, in one.
-/
import Derived.Test.YtdbphpekhmlmdabGreatFnExactClipOfM4
import Derived.Test.YtdbphpekhmlmdabGreatFnExactClipOfM1
import Derived.BigQuiet
import Derived.Maps.OwnSet
import Derived.Test.YtdbphpekhmlmdabGreatFnExactClipOfM2
import Derived.Deep.MidRow
import Derived.Deep.WholeRow
import Derived.Test.YtdbphpekhmlmdabGreatFnExactClipOfM3
import Derived.Deep.DeepFit

/-
  The specification's SceneOk. (By sceneok.py.)
-/
namespace Go.Proofs.YtdbphpekhmlmdabGreat
open Go.RowKit
set_option linter.unusedVariables false

noncomputable def okAt (X : Nat → Nd) (n i : Nat) : Bool := nodeOkB (X i) && (decide (firstN X (X i).id n = (i : Int)) && (inB (depthI X n (X i).id) 1 4 && (decide ((X i).par = 0) || (decide (0 ≤ firstN X (X i).par n) && (X (firstN X (X i).par n).toNat).gr))))
def ScOk (X : Nat → Nd) (n : Nat) : Prop := n ≤ 8 ∧ ∀ i, i < n → okAt X n i = true
open Classical in
noncomputable def sceneOkB (X : Nat → Nd) (n : Nat) : Bool := decide (ScOk X n)
theorem sceneOk_iff {X : Nat → Nd} {n : Nat} : sceneOkB X n = true ↔ ScOk X n := by unfold sceneOkB; simp
theorem sceneOk_no {X : Nat → Nd} {n : Nat} (h : ¬ ScOk X n) : sceneOkB X n = false := by unfold sceneOkB; simp [h]

set_option maxHeartbeats 8000000 in
set_option maxRecDepth 100000 in
theorem specSceneOk_any (X : Nat → Nd) (A : Nat → Na) (ao : Option Addr) (n cp : Nat) (hn : n ≤ 1048576) (hs : ∀ i, i < n → (X i).Small) (w : World) (P : ∀ i, i < n → NrAt w ao i (X i) (A i)) :
    Calls Tryz.prog 42 #[.agg #[.slice ao n cp]] w fun r w' => r = .returned (.bool (sceneOkB X n)) ∧ Below w.heap.size w w' := by
  have hyes : Hid (n ≤ 8 → (∀ i, i < n → okAt X n i = true) → sceneOkB X n = true) := fun h1 h2 => sceneOk_iff.2 ⟨h1, h2⟩
  have hbig : Hid (¬ n ≤ 8 → sceneOkB X n = false) := fun h => sceneOk_no (fun e => h e.1)
  have hno : Hid (∀ i, i < n → okAt X n i = false → sceneOkB X n = false) := fun i hi h => sceneOk_no (fun e => by have := e.2 i hi; rw [h] at this; cases this)
  generalize sceneOkB X n = Z at hyes hbig hno ⊢
  have EA := hide (fun u z => specNodeAt_any X A ao n cp hn z u)
  have ED := hide (fun u z => specDepthOf_any X A ao n cp hn z u)
  replace P := hide P
  replace hs := hide hs
  go_enter Tryz.func42, Tryz.ntmps42
  go_upto_region 1 with fail
  have R := hide (new_row w (.cells #[.slice ao n cp] 30))
  have HB := hide (al1_below w (.cells #[.slice ao n cp] 30))
  obtain ⟨b1, hb1⟩ : ∃ z, Hid (z = w.heap.size) := ⟨_, rfl⟩
  rw [← unhide hb1] at R ⊢
  clear hb1
  generalize w.alloc (.cells #[.slice ao n cp] 30) = W at R HB ⊢
  have c0 := row1 (unhide R)
  by_cases h8 : n ≤ 8
  rotate_left
  · have h8i : (8 : Int) < (n : Int) := by omega
    have hX := hide (unhide hbig h8)
    go_wp2_with fail
    go_ret
    exact ⟨ret_bool (unhide hX).symm, unhide HB⟩
  have h8i : ¬ (8 : Int) < (n : Int) := by omega
  go_upto_region 4 with fail
  clear c0
  go_loopw [3] (fun i u => ∃ k : Nat, k ≤ n ∧ i = .int .i64 (k : Int) ∧ Hid (∀ j, j < k → okAt X n j = true) ∧ Hid (u.heap[b1]? = some (.cells #[.slice ao n cp] 30 (0, 0))) ∧ Hid (Below w.heap.size w u)) (fun i _ => n - (intOf i).toNat)
  case atStart => exact ⟨0, Nat.zero_le _, rfl, fun j hj => absurd hj (by omega), R, HB⟩
  case round =>
    clear R HB
    obtain ⟨k, hk, rfl, HK, R, HB⟩ := hrel
    have cc := row1 (unhide R)
    by_cases hkn : k < n
    · have hki : (k : Int) < (n : Int) := by omega
      have HP := hide ((unhide P k hkn).next (unhide HB))
      have hsk := hide (unhide hs k hkn)
      have hval : Hid (okAt X n k = (nodeOkB (X k) && (decide (firstN X (X k).id n = (k : Int)) && (inB (depthI X n (X k).id) 1 4 && (decide ((X k).par = 0) || (decide (0 ≤ firstN X (X k).par n) && (X (firstN X (X k).par n).toNat).gr)))))) := rfl
      have hnok := hide (unhide hno k hkn)
      have hmore : Hid (okAt X n k = true → ∀ j, j < k + 1 → okAt X n j = true) := fun h j hj => by
        by_cases e : j = k
        · subst e; exact h
        · exact unhide HK j (by omega)
      obtain ⟨xx, hxx⟩ : ∃ z, Hid (X k = z) := ⟨_, rfl⟩
      obtain ⟨ss, hss⟩ : ∃ z, Hid (A k = z) := ⟨_, rfl⟩
      rw [unhide hxx, unhide hss] at HP
      rw [unhide hxx] at hsk hval
      obtain ⟨b, o, hao, hrg⟩ := (unhide HP).range
      replace hrg := hide hrg
      subst hao
      as_aux_lemma =>
      go_upto_region 7 with (first | refine load_node rfl _ rfl b (o + k * 31) rfl xx ss (unhide hrg) ?_ | refine store_new rfl _ _ rfl _ xx ss rfl rfl rfl ?_)
      have R4 := hide (new_row wr (.cells (ndC xx ss) 59))
      have D := hide (al1_below wr (.cells (ndC xx ss) 59))
      have HI := hide ((unhide HP).inn.next (unhide D))
      replace R := hide (row_next (unhide D) (unhide R))
      replace HB := hide (below_two (unhide HB) (unhide D))
      clear hrg cc HP D
      generalize wr.alloc (.cells (ndC xx ss) 59) = W4 at R R4 HB HI ⊢
      generalize wr.heap.size = b4 at R4 ⊢
      as_aux_lemma =>
      have E1 := hide (specNodeOk_c xx ss (unhide hsk) W4 (unhide HI))
      generalize nodeOkB xx = i1 at E1 hval
      go_wp2_with (refine load_own rfl _ rfl b4 rfl xx ss 59 (unhide R4) ?_)
      go_fit (unhide E1)
      rintro r u1 ⟨rfl, hb⟩
      replace R := hide (row_next hb (unhide R))
      replace R4 := hide (row_next hb (unhide R4))
      replace HB := hide (below_two (unhide HB) hb)
      clear hb E1 HI
      cases i1 with
      | false =>
        have hX := hide (unhide hnok (by rw [unhide hval]; rfl))
        go_wp2_with fail
        go_ret
        exact ⟨ret_bool (unhide hX).symm, unhide HB⟩
      | true =>
      as_aux_lemma =>
      have cc := row1 (unhide R)
      obtain ⟨c0, c1, c2⟩ := headsC (unhide R4)
      have E2 := hide (unhide EA u1 xx.id (fun i hi => (unhide P i hi).next (unhide HB)))
      obtain ⟨f1, hf1⟩ : ∃ z, Hid (firstN X xx.id n = z) := ⟨_, rfl⟩
      rw [unhide hf1] at E2 hval
      go_wp2_with fail
      go_fit (unhide E2)
      rintro r u2 ⟨rfl, hb⟩
      replace R := hide (row_next hb (unhide R))
      replace R4 := hide (row_next hb (unhide R4))
      replace HB := hide (below_two (unhide HB) hb)
      clear hb c0 c1 c2 E2 cc
      by_cases hfk : f1 = (k : Int)
      rotate_left
      · have hX := hide (unhide hnok (by rw [unhide hval, decide_eq_false hfk]; rfl))
        have hq : (f1 == (k : Int)) = false := beq_eq_false_iff_ne.2 hfk
        go_wp2_with fail
        go_ret
        exact ⟨ret_bool (unhide hX).symm, unhide HB⟩
      as_aux_lemma =>
      have hq : (f1 == (k : Int)) = true := beq_iff_eq.2 hfk
      replace hval := hide (show okAt X n k = _ by rw [unhide hval, decide_eq_true hfk])
      have cc := row1 (unhide R)
      obtain ⟨c0, c1, c2⟩ := headsC (unhide R4)
      have E2 := hide (unhide ED u2 xx.id (fun i hi => (unhide P i hi).next (unhide HB)))
      generalize depthI X n xx.id = dp at E2 hval
      go_wp2_with fail
      go_fit (unhide E2)
      rintro r u3 ⟨rfl, hb⟩
      replace R := hide (row_next hb (unhide R))
      replace R4 := hide (row_next hb (unhide R4))
      replace HB := hide (below_two (unhide HB) hb)
      clear hb c0 c1 c2 E2 cc
      as_aux_lemma =>
      have E2 := hide (l01In_any dp 1 4)
      generalize inB dp 1 4 = i3 at E2 hval
      go_wp2_with fail
      go_fit (unhide E2 _)
      rintro r u4 ⟨rfl, hu⟩
      rw [hu]
      clear hu u4 E2
      cases i3 with
      | false =>
        have hX := hide (unhide hnok (by rw [unhide hval]; rfl))
        go_wp2_with fail
        go_ret
        exact ⟨ret_bool (unhide hX).symm, unhide HB⟩
      | true =>
      as_aux_lemma =>
      have cc := row1 (unhide R)
      obtain ⟨c0, c1, c2⟩ := headsC (unhide R4)
      have E2 := hide (unhide EA u3 xx.par (fun i hi => (unhide P i hi).next (unhide HB)))
      obtain ⟨f2, hf2⟩ : ∃ z, Hid (firstN X xx.par n = z) := ⟨_, rfl⟩
      have hcase := hide (first_is (X := X) (id := xx.par) n)
      rw [unhide hf2] at E2 hval hcase
      go_wp2_with fail
      go_fit (unhide E2)
      rintro r u5 ⟨rfl, hb⟩
      replace R := hide (row_next hb (unhide R))
      replace R4 := hide (row_next hb (unhide R4))
      replace HB := hide (below_two (unhide HB) hb)
      clear hb c0 c1 c2 E2 cc
      as_aux_lemma =>
      have cc := row1 (unhide R)
      obtain ⟨c0, c1, c2⟩ := headsC (unhide R4)
      clear c0 c2
      by_cases hp0 : xx.par = 0
      · have hq2 : (xx.par == 0) = true := beq_iff_eq.2 hp0
        have hgo := hide (unhide hmore (by rw [unhide hval, decide_eq_true hp0]; rfl))
        go_wp2_with fail
        go_roundw
        case rel => exact ⟨k + 1, by omega, by go_num, hgo, R, HB⟩
        case measure => simp [intOf]; omega
      · have hq2 : (xx.par == 0) = false := beq_eq_false_iff_ne.2 hp0
        replace hval := hide (show okAt X n k = _ by rw [unhide hval, decide_eq_false hp0])
        rcases unhide hcase with ⟨e, _⟩ | ⟨m, hm, e, _, _⟩
        · have hX := hide (unhide hnok (by rw [unhide hval, e]; rfl))
          have hl : f2 < 0 := by omega
          go_wp2_with fail
          go_ret
          exact ⟨ret_bool (unhide hX).symm, unhide HB⟩
        · have hl : ¬ f2 < 0 := by omega
          have hm0 : (m : Int) < (n : Int) := by omega
          subst e
          obtain ⟨b', o', hao', g0, g1, g2⟩ := ((unhide P m hm).next (unhide HB)).heads
          cases hao'
          cases hgm : (X m).gr with
          | true =>
            rw [hgm] at g2
            have hgo := hide (unhide hmore (by rw [unhide hval]; show (true && (true && (true && (false || (decide (0 ≤ (m : Int)) && (X (m : Int).toNat).gr))))) = true; rw [show (m : Int).toNat = m from rfl, hgm, decide_eq_true (by omega)]; rfl))
            go_wp2_with fail
            go_roundw
            case rel => exact ⟨k + 1, by omega, by go_num, hgo, R, HB⟩
            case measure => simp [intOf]; omega
          | false =>
            rw [hgm] at g2
            have hX := hide (unhide hnok (by rw [unhide hval]; show (true && (true && (true && (false || (decide (0 ≤ (m : Int)) && (X (m : Int).toNat).gr))))) = false; rw [show (m : Int).toNat = m from rfl, hgm]; simp))
            go_wp2_with fail
            go_ret
            exact ⟨ret_bool (unhide hX).symm, unhide HB⟩
    · have hke : k = n := by omega
      subst hke
      have hki : ¬ (k : Int) < (k : Int) := by omega
      have hX := hide (unhide hyes h8 (unhide HK))
      go_wp2_with fail
      go_ret
      exact ⟨ret_bool (unhide hX).symm, unhide HB⟩
end Go.Proofs.YtdbphpekhmlmdabGreat

/-
  The specification's KidsOf.
-/
namespace Go.Proofs.YtdbphpekhmlmdabGreat
open Go.RowKit
set_option linter.unusedVariables false

theorem infoInt15 : (Tryz.prog.info? 3).map (fun i => (i.zero, i.size, i.bytes)) = some (some (.int .i64 0), 1, 8) := by kernel_rfl
def Zv (z : Int) : Value := .int .i64 z
/-- A call hands back numbers that are its own. -/
def IdsRes (w : World) (r : Ending) (w' : World) (L : List Int) : Prop :=
  ∃ p cap, r = .returned (.slice p L.length cap) ∧ w'.ownsRow w.heap.size 3 1 (.slice p L.length cap) L.length (L.map Zv) ∧ Below w.heap.size w w'
theorem own_ids {w : World} {base : Nat} {v : Value} {L : List Int} (h : w.ownsRow base 3 1 v L.length (L.map Zv)) : w.ownsRow base 3 1 v (L.map Zv).length (L.map Zv) := by
  rw [List.length_map]; exact h
theorem ids_snoc {w : World} {base : Nat} {v : Value} {L : List Int} {z : Int} (h : w.ownsRow base 3 1 v (L.map Zv ++ #[Value.int .i64 z].toList).length (L.map Zv ++ #[Value.int .i64 z].toList)) : w.ownsRow base 3 1 v (L ++ [z]).length ((L ++ [z]).map Zv) := by
  have e : (L ++ [z]).map Zv = L.map Zv ++ #[Value.int .i64 z].toList := by simp [Zv]
  rw [e]
  have e2 : (L ++ [z]).length = (L.map Zv ++ #[Value.int .i64 z].toList).length := by simp
  rw [e2]
  exact h
/-- The Ids of the first k nodes that are picked. -/
def pickIds (X : Nat → Nd) (q : Nat → Bool) : Nat → List Int
  | 0 => []
  | k + 1 => if q k = true then pickIds X q k ++ [(X k).id] else pickIds X q k
theorem pick_le (X : Nat → Nd) (q : Nat → Bool) : ∀ k, (pickIds X q k).length ≤ k
  | 0 => Nat.le_refl _
  | k + 1 => by
    have := pick_le X q k
    unfold pickIds
    split
    · rw [List.length_append]; simp; omega
    · omega
def kidsL (X : Nat → Nd) (n : Nat) (id : Int) : List Int := pickIds X (fun k => decide ((X k).par = id)) n

end Go.Proofs.YtdbphpekhmlmdabGreat

/-
  The specification's UnderOf.
-/
namespace Go.Proofs.YtdbphpekhmlmdabGreat
open Go.RowKit
set_option linter.unusedVariables false

def underL (X : Nat → Nd) (n : Nat) (id : Int) : List Int := if firstN X id n < 0 then [] else pickIds X (fun k => underB X n (X k).id id) n

set_option maxHeartbeats 4000000 in
set_option maxRecDepth 100000 in
theorem specUnderOf_any (X : Nat → Nd) (A : Nat → Na) (ao : Option Addr) (n cp : Nat) (hn : n ≤ 1048576) (id : Int) (w : World) (P : ∀ i, i < n → NrAt w ao i (X i) (A i)) :
    Calls Tryz.prog 31 #[.agg #[.slice ao n cp], .int .i64 id] w fun r w' => IdsRes w r w' (underL X n id) := by
  obtain ⟨i0, hi, hz0, hz1, hz2⟩ := info_parts infoInt15
  obtain ⟨q, hq⟩ : ∃ q : Nat → Bool, Hid (q = fun k => underB X n (X k).id id) := ⟨_, rfl⟩
  have hqk : Hid (∀ k, q k = underB X n (X k).id id) := fun k => by rw [unhide hq]
  have EA := hide (specNodeAt_any X A ao n cp hn id)
  have EU := hide (fun u z => under_any X A ao n cp hn z id u)
  unfold underL IdsRes
  rw [← unhide hq]
  clear hq
  have hL : Hid (∃ L : List Int, L = (if firstN X id n < 0 then [] else pickIds X q n) ∧ (firstN X id n < 0 → L = []) ∧ (¬ firstN X id n < 0 → L = pickIds X q n)) := ⟨_, rfl, fun h => if_pos h, fun h => if_neg h⟩
  obtain ⟨L0, e0, hL1, hL2⟩ := unhide hL
  rw [← e0]
  clear e0 hL
  replace hL1 := hide hL1
  replace hL2 := hide hL2
  generalize firstN X id n = fst at EA hL1 hL2
  replace P := hide P
  go_enter Tryz.func31, Tryz.ntmps31
  go_upto_region 1 with fail
  have R := hide (new_row w (.cells #[.slice ao n cp] 30))
  have HB := hide (al1_below w (.cells #[.slice ao n cp] 30))
  obtain ⟨b1, hb1⟩ : ∃ z, Hid (z = w.heap.size) := ⟨_, rfl⟩
  rw [← unhide hb1] at R ⊢
  clear hb1
  generalize w.alloc (.cells #[.slice ao n cp] 30) = W at R HB ⊢
  go_upto_region 2 with fail
  have c0 := row1 (row_next (al1_below W (.cells #[] 3)) (unhide R))
  have E2 := hide (unhide EA _ (fun i hi => (unhide P i hi).next (below_two (unhide HB) (al1_below W (.cells #[] 3)))))
  go_wp2_with fail
  go_fit (unhide E2)
  rintro r w1 ⟨rfl, hb⟩
  have D0 := hide (below_two (al1_below W (.cells #[] 3)) hb)
  have O0 := hide (own_below (show (W.alloc (.cells #[] 3)).ownsRow W.heap.size 3 1 (.slice (some ⟨W.heap.size, 0, none⟩) 0 0) 0 [] from World.ownsRow_lit W #[] 0 (Nat.le_refl _) (by decide) rfl) hb)
  clear hb E2 c0
  by_cases hlt : fst < 0
  · have hL := hide (unhide hL1 hlt)
    go_wp2_with fail
    go_ret
    exact ⟨_, _, by rw [unhide hL]; rfl, by rw [unhide hL]; exact own_low (unhide O0) (unhide HB).size, below_two (unhide HB) (unhide D0)⟩
  have hL := hide (unhide hL2 (by omega))
  clear hL1 hL2
  go_upto_region 5 with fail
  go_loopw [5, 6] (fun v i u => ∃ (k : Nat) (p : Option Addr) (cap : Nat), k ≤ n ∧ i = .int .i64 (k : Int) ∧ v = .slice p (pickIds X q k).length cap ∧ Hid (u.ownsRow W.heap.size 3 1 (.slice p (pickIds X q k).length cap) (pickIds X q k).length ((pickIds X q k).map Zv)) ∧ Hid (Below W.heap.size W u)) (fun _ i _ => n - (intOf i).toNat)
  case atStart => exact ⟨0, some ⟨W.heap.size, 0, none⟩, 0, Nat.zero_le _, rfl, rfl, O0, D0⟩
  case round =>
    obtain ⟨k, p, cap, hk, rfl, rfl, O, D⟩ := hrel
    have R1 := hide (row_next (unhide D) (unhide R))
    have c0 := row1 (unhide R1)
    have hlen := pick_le X q k
    by_cases hkn : k < n
    · have hki : (k : Int) < (n : Int) := by omega
      obtain ⟨b, o, hao, g0, g1, g2⟩ := ((unhide P k hkn).next (below_two (unhide HB) (unhide D))).heads
      subst hao
      have E2 := hide (fun u => unhide EU u (X k).id)
      rw [← unhide hqk k] at E2
      go_upto_region 7 with fail
      obtain ⟨I, Fw, hI, F1, F2⟩ := kept_worlds wr
      have s0 : ∀ i, (Fw i).cell? ⟨b1, 0, none⟩ = some (.slice (some ⟨b, o, none⟩) n cp) := fun i => kc (F2 i) c0
      have s1 : ∀ i, (Fw i).cell? ⟨b, o + k * 31, none⟩ = some (.int .i64 (X k).id) := fun i => kc (F2 i) g0
      have E3 := hide (fun i => unhide E2 (Fw i) (fun j hj => (unhide P j hj).next (below_two (unhide HB) (below_two (unhide D) (F2 i)))))
      replace F1 := hide F1
      replace F2 := hide F2
      clear c0 g0 g1 g2
      refine wp_region_quiet_in (unhide F1) (by kernel_rfl) (by kernel_rfl) ?_
      repeat (go_big_quiet_step (first | with_reducible exact quiet_in (unhide F1) (unhide F2) (unhide E3 _)))
      refine wpQuiet_nil ?_
      rintro _ ⟨i, rfl⟩
      have hF := unhide F2 i
      have g0 := s1 i
      have c0 := s0 i
      replace O := hide (own_below (unhide O) hF)
      replace D := hide (below_two (unhide D) hF)
      clear F1 F2 E3 E2 s0 s1 hF R1
      generalize Fw i = wr at O D g0 c0 ⊢
      cases hx : q k with
      | true =>
        have hqt := hide (show pickIds X q (k + 1) = pickIds X q k ++ [(X k).id] by rw [pickIds, if_pos hx])
        clear hx
        generalize pickIds X q k = L at O hlen hqt ⊢
        go_wp2_with (at_builtin; go_must (refine wpList_append_vals wr rfl _ _ 47 3 rfl W.heap.size i0 (.int .i64 0) 8 Tryz.underlying47 hi hz0 hz1 hz2 rfl _ (L.map Zv) (by rfl) (own_ids (unhide O)) _ (by intro u hu; simp at hu; subst hu; rfl) 1 1 rfl (by rfl) (by unfold maxLen; simp; omega) (by simp; omega) W W.heap.size (Nat.le_refl _) (unhide D).size (unhide D) ?_); intro v' w1 hown' hnx'; replace hown' := ids_snoc hown'; obtain ⟨p', cap', rfl⟩ := own_form hown'; replace hown' := hide hown'; replace hnx' := hide hnx'; refine Hid.out ?_)
        unfold Hid
        go_wp2_with fail
        go_roundw
        case rel => exact ⟨k + 1, p', cap', by omega, by go_num, by rw [unhide hqt, List.length_append]; rfl, by rw [unhide hqt]; exact unhide hown', hnx'⟩
        case measure => simp [intOf]; omega
      | false =>
        have hqt := hide (show pickIds X q (k + 1) = pickIds X q k by rw [pickIds, if_neg (by rw [hx]; exact Bool.false_ne_true)])
        clear hx
        go_wp2_with fail
        go_roundw
        case rel => exact ⟨k + 1, p, cap, by omega, by go_num, by rw [unhide hqt], by rw [unhide hqt]; exact unhide O, D⟩
        case measure => simp [intOf]; omega
    · have hke : k = n := by omega
      subst hke
      have hki : ¬ (k : Int) < (k : Int) := by omega
      go_wp2_with fail
      go_ret
      exact ⟨p, cap, by rw [unhide hL]; rfl, by rw [unhide hL]; exact own_low (unhide O) (unhide HB).size, below_two (unhide HB) (unhide D)⟩
end Go.Proofs.YtdbphpekhmlmdabGreat

/-
  Right scenes: depths, what is under a node, how many kids there are in all.
-/
namespace Go.Proofs.YtdbphpekhmlmdabGreat
set_option linter.unusedVariables false

theorem depthN_succ (X : Nat → Nd) (n f : Nat) (c id : Int) : depthN X n (f + 1) c id = if id = 0 then c else if firstN X id n < 0 then 0 else depthN X n f (c + 1) (X (firstN X id n).toNat).par := rfl
theorem depth_more {X : Nat → Nd} {n : Nat} : ∀ {f : Nat} {c id : Int}, 0 < c → depthN X n f c id ≠ 0 → c ≤ depthN X n f c id ∧ ∀ (f' : Nat) (c' : Int), f ≤ f' → depthN X n f' c' id = depthN X n f c id - c + c'
  | 0, c, id, _, h => absurd rfl h
  | f + 1, c, id, hc, h => by
    rw [depthN_succ] at h ⊢
    by_cases h0 : id = 0
    · rw [if_pos h0] at h ⊢
      refine ⟨Int.le_refl _, fun f' c' hf => ?_⟩
      obtain ⟨g, rfl⟩ : ∃ g, f' = g + 1 := ⟨f' - 1, by omega⟩
      rw [depthN_succ, if_pos h0]; omega
    · rw [if_neg h0] at h ⊢
      by_cases h1 : firstN X id n < 0
      · rw [if_pos h1] at h; exact absurd rfl h
      · rw [if_neg h1] at h ⊢
        obtain ⟨h2, h3⟩ := depth_more (f := f) (c := c + 1) (by omega) h
        refine ⟨by omega, fun f' c' hf => ?_⟩
        obtain ⟨g, rfl⟩ : ∃ g, f' = g + 1 := ⟨f' - 1, by omega⟩
        rw [depthN_succ, if_neg h0, if_neg h1, h3 g (c' + 1) (by omega)]
        omega
theorem okAt_iff {X : Nat → Nd} {n i : Nat} : okAt X n i = true ↔ nodeOkB (X i) = true ∧ firstN X (X i).id n = (i : Int) ∧ (1 ≤ depthI X n (X i).id ∧ depthI X n (X i).id ≤ 4) ∧ ((X i).par = 0 ∨ (0 ≤ firstN X (X i).par n ∧ (X (firstN X (X i).par n).toNat).gr = true)) := by
  unfold okAt
  simp only [Bool.and_eq_true, decide_eq_true_eq, Bool.or_eq_true, inB_true]
theorem node_ids {x : Nd} (h : nodeOkB x = true) : (1 ≤ x.id ∧ x.id ≤ 99) ∧ (0 ≤ x.par ∧ x.par ≤ 99) ∧ x.id ≠ x.par := by
  unfold nodeOkB at h
  simp only [Bool.and_eq_true, inB_true, Bool.not_eq_true', decide_eq_false_iff_not] at h
  exact ⟨h.1, h.2.1, h.2.2.1⟩
theorem depth_step {X : Nat → Nd} {n i : Nat} (hS : ScOk X n) (hi : i < n) : depthI X n (X i).id = depthI X n (X i).par + 1 := by
  obtain ⟨h1, h2, ⟨h3, _⟩, _⟩ := okAt_iff.1 (hS.2 i hi)
  have hid := (node_ids h1).1
  unfold depthI at h3 ⊢
  have e : depthN X n 9 0 (X i).id = depthN X n 8 (0 + 1) (X i).par := by
    rw [depthN_succ, if_neg (by omega), if_neg (by omega), h2]
    rfl
  have h5 : depthN X n 8 (0 + 1) (X i).par ≠ 0 := by rw [← e]; omega
  have h4 := (depth_more (f := 8) (c := 0 + 1) (by omega) h5).2 9 0 (by omega)
  rw [e, h4]
  omega
theorem depth_zero (X : Nat → Nd) (n : Nat) : depthI X n 0 = 0 := by unfold depthI depthN; rw [if_pos rfl]
theorem depth_none {X : Nat → Nd} {n : Nat} {id : Int} (h : firstN X id n = -1) : depthI X n id = 0 := by
  unfold depthI depthN
  by_cases h0 : id = 0
  · rw [if_pos h0]
  · rw [if_neg h0, if_pos (by omega)]
theorem under_none {X : Nat → Nd} {n : Nat} {id : Int} (h : firstN X id n = -1) : underL X n id = [] := by unfold underL; rw [if_pos (by omega)]
theorem pick_mem {X : Nat → Nd} {q : Nat → Bool} {z : Int} : ∀ {n : Nat}, z ∈ pickIds X q n ↔ ∃ k, k < n ∧ q k = true ∧ (X k).id = z
  | 0 => by simp [pickIds]
  | n + 1 => by
    unfold pickIds
    have ih := pick_mem (X := X) (q := q) (z := z) (n := n)
    constructor
    · intro h
      split at h
      · rename_i hq
        rcases List.mem_append.1 h with h | h
        · obtain ⟨k, h1, h2⟩ := ih.1 h; exact ⟨k, by omega, h2⟩
        · exact ⟨n, by omega, hq, (List.mem_singleton.1 h).symm⟩
      · obtain ⟨k, h1, h2⟩ := ih.1 h; exact ⟨k, by omega, h2⟩
    · rintro ⟨k, h1, h2, h3⟩
      by_cases e : k = n
      · subst e
        rw [if_pos h2]
        exact List.mem_append.2 (.inr (List.mem_singleton.2 h3.symm))
      · have hm := ih.2 ⟨k, by omega, h2, h3⟩
        split
        · exact List.mem_append.2 (.inl hm)
        · exact hm
theorem under_mono {X : Nat → Nd} {n : Nat} {top : Int} : ∀ {f : Nat} {id : Int}, underN X n top f id = true → underN X n top (f + 1) id = true
  | 0, id, h => by cases h
  | f + 1, id, h => by
    unfold underN at h ⊢
    by_cases h0 : id = top
    · rw [if_pos h0]
    · rw [if_neg h0] at h ⊢
      by_cases h1 : firstN X id n < 0
      · rw [if_pos h1] at h; cases h
      · rw [if_neg h1] at h ⊢; exact under_mono h
theorem under_self {X : Nat → Nd} {n i : Nat} (hS : ScOk X n) (hi : i < n) : (X i).id ∈ underL X n (X i).id := by
  obtain ⟨_, h2, _, _⟩ := okAt_iff.1 (hS.2 i hi)
  unfold underL
  rw [if_neg (by omega)]
  exact pick_mem.2 ⟨i, hi, by unfold underB underN; rw [if_pos rfl], rfl⟩
/-- A node that is under another one, and is not it, has its parent there, too. -/
theorem under_par {X : Nat → Nd} {n i : Nat} (hS : ScOk X n) (hi : i < n) {z : Int} (hz : z ∈ underL X n (X i).id) :
    ∃ k, k < n ∧ firstN X z n = (k : Int) ∧ (X k).id = z ∧ (z ≠ (X i).id → (X k).par ∈ underL X n (X i).id) := by
  obtain ⟨_, h2, _, _⟩ := okAt_iff.1 (hS.2 i hi)
  have hn : ¬ firstN X (X i).id n < 0 := by omega
  unfold underL at hz
  rw [if_neg hn] at hz
  obtain ⟨k, hk, hq, rfl⟩ := pick_mem.1 hz
  obtain ⟨g1, g2, _, _⟩ := okAt_iff.1 (hS.2 k hk)
  refine ⟨k, hk, g2, rfl, fun hne => ?_⟩
  unfold underB underN at hq
  rw [if_neg hne, if_neg (by omega), g2] at hq
  change underN X n (X i).id 8 (X k).par = true at hq
  unfold underL
  rw [if_neg hn]
  by_cases e : (X k).par = (X i).id
  · rw [e]
    exact pick_mem.2 ⟨i, hi, by unfold underB underN; rw [if_pos rfl], rfl⟩
  · have h9 := under_mono hq
    unfold underN at hq
    rw [if_neg e] at hq
    rcases first_is (X := X) (id := (X k).par) n with ⟨e1, _⟩ | ⟨m, hm, e1, e2, _⟩
    · rw [if_pos (by omega)] at hq; cases hq
    · exact pick_mem.2 ⟨m, hm, by rw [e2]; exact h9, e2⟩

/-- Sums. -/
def sumF (f : Nat → Nat) : Nat → Nat
  | 0 => 0
  | n + 1 => sumF f n + f n
theorem sumF_add (f g : Nat → Nat) : ∀ n, sumF (fun i => f i + g i) n = sumF f n + sumF g n
  | 0 => rfl
  | n + 1 => by have := sumF_add f g n; show sumF _ n + (f n + g n) = sumF f n + f n + (sumF g n + g n); omega
theorem sumF_zero : ∀ n, sumF (fun _ => 0) n = 0
  | 0 => rfl
  | n + 1 => by have := sumF_zero n; show sumF _ n + 0 = 0; omega
theorem sumF_one : ∀ n, sumF (fun _ => 1) n = n
  | 0 => rfl
  | n + 1 => by have := sumF_one n; show sumF _ n + 1 = n + 1; omega
theorem sumF_congr {f g : Nat → Nat} : ∀ {n : Nat}, (∀ i, i < n → f i = g i) → sumF f n = sumF g n
  | 0, _ => rfl
  | n + 1, h => by show sumF f n + f n = sumF g n + g n; rw [sumF_congr (fun i hi => h i (by omega)), h n (by omega)]
theorem sumF_swap (h : Nat → Nat → Nat) : ∀ n m, sumF (fun i => sumF (fun j => h i j) m) n = sumF (fun j => sumF (fun i => h i j) n) m
  | 0, m => by show 0 = sumF (fun _ => 0) m; rw [sumF_zero]
  | n + 1, m => by
    show sumF _ n + sumF (fun j => h n j) m = sumF (fun j => sumF (fun i => h i j) n + h n j) m
    rw [sumF_add, sumF_swap h n m]
theorem sumF_single {f : Nat → Nat} {k : Nat} : ∀ {n : Nat}, k < n → f k = 1 → (∀ i, i < n → i ≠ k → f i = 0) → sumF f n = 1
  | 0, h, _, _ => absurd h (by omega)
  | n + 1, h, h1, h2 => by
    show sumF f n + f n = 1
    by_cases e : k = n
    · subst e
      rw [sumF_congr (g := fun _ => 0) (fun i hi => h2 i (by omega) (by omega)), sumF_zero, h1]
    · rw [sumF_single (k := k) (by omega) h1 (fun i hi => h2 i (by omega)), h2 n (by omega) (Ne.symm e)]
def bit (b : Bool) : Nat := if b = true then 1 else 0
theorem pick_len (X : Nat → Nd) (q : Nat → Bool) : ∀ n, (pickIds X q n).length = sumF (fun k => bit (q k)) n
  | 0 => rfl
  | n + 1 => by
    have ih := pick_len X q n
    show _ = sumF _ n + bit (q n)
    unfold pickIds bit
    split
    · rw [List.length_append, ih]; rfl
    · rw [ih]; rfl
/-- The kids of all parents are all nodes. -/
theorem kids_all {X : Nat → Nd} {n : Nat} (hS : ScOk X n) : (kidsL X n 0).length + sumF (fun m => (kidsL X n (X m).id).length) n = n := by
  have e1 : (kidsL X n 0).length = sumF (fun k => bit (decide ((X k).par = 0))) n := pick_len X _ n
  have e2 : sumF (fun m => (kidsL X n (X m).id).length) n = sumF (fun k => sumF (fun m => bit (decide ((X k).par = (X m).id))) n) n := by
    rw [← sumF_swap (fun m k => bit (decide ((X k).par = (X m).id))) n n]
    exact sumF_congr (fun m _ => pick_len X _ n)
  rw [e1, e2, ← sumF_add, sumF_congr (g := fun _ => 1) (fun k hk => ?_), sumF_one]
  obtain ⟨g1, g2, _, g4⟩ := okAt_iff.1 (hS.2 k hk)
  by_cases h0 : (X k).par = 0
  · have z : sumF (fun m => bit (decide ((X k).par = (X m).id))) n = 0 := by
      rw [sumF_congr (g := fun _ => 0) (fun m hm => ?_), sumF_zero]
      have hid := (node_ids (okAt_iff.1 (hS.2 m hm)).1).1
      unfold bit
      rw [if_neg (by simp; omega)]
    rw [z]
    unfold bit
    rw [if_pos (by simp [h0])]
  · have hz : bit (decide ((X k).par = 0)) = 0 := by unfold bit; rw [if_neg (by simp [h0])]
    rcases first_is (X := X) (id := (X k).par) n with ⟨e, _⟩ | ⟨m, hm, e, e3, _⟩
    · rcases g4 with g4 | ⟨g4, _⟩
      · exact absurd g4 h0
      · omega
    · rw [hz, sumF_single (k := m) hm (by unfold bit; rw [if_pos (by simp [e3])]) (fun i hi hne => by
        unfold bit
        rw [if_neg]
        simp only [decide_eq_true_eq]
        intro e4
        have a := (okAt_iff.1 (hS.2 i hi)).2.1
        rw [← e4, e] at a
        exact hne (by omega))]
end Go.Proofs.YtdbphpekhmlmdabGreat

/-
  Nodes by their Ids: the program's map of pointers, and what both sides reckon of it.
-/
namespace Go.Proofs.YtdbphpekhmlmdabGreat
open Go.RowKit
set_option linter.unusedVariables false

theorem int_law : Go.Maps.Keyed Tryz.prog 3 := Go.Maps.int_keyed Tryz.underlying3
/-- An element of a map reads as itself. -/
def anyElem (v : Value) : Option (DataW Value × List MemPlace) := some (.held v, [])
theorem anyElem_inv {u v : Value} {ps : List MemPlace} (h : anyElem u = some (.held v, ps)) : u = v := by
  unfold anyElem at h
  cases h
  rfl
/-- Where node k of a list lies. -/
def nodeV (ao : Option Addr) (k : Nat) : Value := .pointer (ao.map (fun a => ⟨a.block, a.off + k * 31, none⟩))
/-- What stands at an Id: the first of n nodes that has it. -/
def stP (ao : Option Addr) (X : Nat → Nd) (n : Nat) (z : Int) : Value := if firstN X z n < 0 then .pointer none else nodeV ao (firstN X z n).toNat
/-- How many of n nodes are the first with their Id. -/
def firsts (X : Nat → Nd) : Nat → Nat
  | 0 => 0
  | n + 1 => if firstN X (X n).id n < 0 then firsts X n + 1 else firsts X n
theorem firsts_le (X : Nat → Nd) : ∀ n, firsts X n ≤ n
  | 0 => Nat.le_refl _
  | n + 1 => by
    have := firsts_le X n
    unfold firsts
    split <;> omega
theorem first_more (X : Nat → Nd) (z : Int) (n : Nat) : firstN X z (n + 1) = if 0 ≤ firstN X z n then firstN X z n else if (X n).id = z then (n : Int) else -1 := rfl
theorem firsts_all {X : Nat → Nd} : ∀ {n : Nat}, firsts X n = n → ∀ i, i < n → firstN X (X i).id n = (i : Int)
  | 0, _, i, hi => absurd hi (by omega)
  | n + 1, h, i, hi => by
    have hle := firsts_le X n
    unfold firsts at h
    split at h
    · rename_i hn
      have ih := firsts_all (X := X) (n := n) (by omega)
      rw [first_more]
      by_cases e : i = n
      · subst e
        rw [if_neg (by omega), if_pos rfl]
      · rw [ih i (by omega), if_pos (by omega)]
    · omega
theorem firsts_is {X : Nat → Nd} {n : Nat} (h : ∀ i, i < n → firstN X (X i).id n = (i : Int)) : ∀ m, m ≤ n → firsts X m = m
  | 0, _ => rfl
  | m + 1, hm => by
    have ih := firsts_is h m (by omega)
    unfold firsts
    have hf : firstN X (X m).id m < 0 := by
      rcases first_is (X := X) (id := (X m).id) n with ⟨e, _⟩ | ⟨k, hk, e, _, h2⟩
      · have := h m (by omega); omega
      · have h3 := h m (by omega)
        have h4 : k = m := by omega
        subst h4
        rw [first_none h2]; omega
    rw [if_pos hf]; omega
theorem firsts_no {X : Nat → Nd} {n : Nat} (h : firsts X n ≠ n) : ∃ i, i < n ∧ firstN X (X i).id n ≠ (i : Int) := by
  refine Classical.byContradiction (fun hc => h (firsts_is (fun i hi => ?_) n (Nat.le_refl _)))
  exact Classical.byContradiction (fun e => hc ⟨i, hi, e⟩)
/-- The map of the first n nodes. -/
def Stand (w : World) (m : Nat) (ao : Option Addr) (X : Nat → Nd) (n : Nat) : Prop :=
  ∃ D : DataW Value, w.ownsMap Tryz.prog 3 anyElem m n D ∧ (∀ z, (Lit.int .i64 z).wf = true → D.atKey (.int .i64 z) (.held (.pointer none)) = .held (stP ao X n z)) ∧ (∀ z, (Lit.int .i64 z).wf = true → Maps.has D (.int .i64 z) = decide (¬ firstN X z n < 0)) ∧ Maps.size D = firsts X n
theorem ownsMap_next {w u : World} {P : Program} {k : TypeId} {R : Value → Option (DataW Value × List MemPlace)} {m n : Nat} {D : DataW Value} (h : w.ownsMap P k R m n D) (hb : Below w.heap.size w u) : u.ownsMap P k R m n D :=
  let ⟨es, c, h1, h2⟩ := h; ⟨es, c, row_next hb h1, h2⟩
theorem Stand.next {w u : World} {m n : Nat} {ao : Option Addr} {X : Nat → Nd} (h : Stand w m ao X n) (hb : Below w.heap.size w u) : Stand u m ao X n :=
  let ⟨D, h1, h2⟩ := h; ⟨D, ownsMap_next h1 hb, h2⟩
theorem Stand.made (w : World) (ao : Option Addr) (X : Nat → Nd) : Stand (w.alloc (.map #[] 0)) w.heap.size ao X 0 :=
  ⟨.map [], World.ownsMap_made w _ _ _, fun z _ => rfl, fun z _ => rfl, rfl⟩
theorem ptr_zero (w : World) : (zeroValue 109).run Tryz.prog w = .ok (.pointer none) w := by kernel_rfl
theorem Stand.look {w : World} {m n : Nat} {ao : Option Addr} {X : Nat → Nd} (h : Stand w m ao X n) (z : Int) (hz : (Lit.int .i64 z).wf = true) : (Instr.lookup 93 (.map (some m)) (.int .i64 z) false).run Tryz.prog w = .ok (stP ao X n z) w := by
  obtain ⟨D, h1, h2, _⟩ := h
  obtain ⟨v, ps, hrun, hv⟩ := h1.lookup int_law Tryz.underlying93 (ptr_zero w) (zd := .held (.pointer none)) (zp := []) rfl (Go.Maps.keyOf_int_mk Tryz.underlying3 hz)
  rw [h2 z hz] at hv
  rw [hrun, anyElem_inv hv]
theorem Stand.len {w : World} {m n : Nat} {ao : Option Addr} {X : Nat → Nd} (h : Stand w m ao X n) (ty : TypeId) : (Builtin.len_ #[93] ty #[.map (some m)]).run Tryz.prog w = .ok (.int .i64 (firsts X n)) w := by
  obtain ⟨D, h1, _, _, h4⟩ := h
  rw [h1.len Tryz.underlying93, h4]
theorem Stand.skip {w : World} {m n : Nat} {ao : Option Addr} {X : Nat → Nd} (h : Stand w m ao X n) (hf : ¬ firstN X (X n).id n < 0) : Stand w m ao X (n + 1) := by
  obtain ⟨D, h1, h2, h3, h4⟩ := h
  have e : ∀ z, firstN X z (n + 1) = firstN X z n := by
    intro z
    rw [first_more]
    by_cases h0 : 0 ≤ firstN X z n
    · rw [if_pos h0]
    · rw [if_neg h0]
      by_cases hx : (X n).id = z
      · subst hx; omega
      · rw [if_neg hx]
        rcases first_is (X := X) (id := z) n with ⟨e, _⟩ | ⟨k, _, e, _⟩ <;> omega
  refine ⟨D, h1.mono (by omega), fun z hz => ?_, fun z hz => ?_, ?_⟩
  · rw [h2 z hz]; unfold stP; rw [e]
  · rw [h3 z hz, e]
  · rw [h4, firsts, if_neg hf]
theorem Stand.put {w : World} {m n : Nat} {ao : Option Addr} {X : Nat → Nd} (h : Stand w m ao X n) (hn : n ≤ 1048576) (hf : firstN X (X n).id n < 0) (hz : (Lit.int .i64 (X n).id).wf = true) :
    ∃ w', (Instr.mapUpdate 93 (.map (some m)) (.int .i64 (X n).id) (nodeV ao n)).run Tryz.prog w = .ok () w' ∧ Stand w' m ao X (n + 1) ∧ w.grownBy w' (some m) := by
  obtain ⟨D, h1, h2, h3, h4⟩ := h
  have hT := h1.tidy int_law
  obtain ⟨w', hrun, hown, hg⟩ := h1.update int_law Tryz.underlying93 (by unfold maxLen; omega) (Go.Maps.keyOf_int_mk Tryz.underlying3 hz) (show anyElem (nodeV ao n) = some (.held (nodeV ao n), []) from rfl)
  have e1 : firstN X (X n).id (n + 1) = (n : Int) := by rw [first_more, if_neg (by omega), if_pos rfl]
  have e2 : ∀ z, (X n).id ≠ z → firstN X z (n + 1) = firstN X z n := by
    intro z hx
    rw [first_more]
    by_cases h0 : 0 ≤ firstN X z n
    · rw [if_pos h0]
    · rw [if_neg h0, if_neg hx]
      rcases first_is (X := X) (id := z) n with ⟨e, _⟩ | ⟨k, _, e, _⟩ <;> omega
  refine ⟨w', hrun, ⟨_, hown, fun z hzw => ?_, fun z hzw => ?_, ?_⟩, hg⟩
  · by_cases hx : (X n).id = z
    · subst hx
      rw [Go.Maps.atKey_put_same hT.isMap (by trivial)]
      unfold stP
      rw [e1, if_neg (by omega)]
      rfl
    · rw [Go.Maps.atKey_put_other (by intro e; cases e; exact hx rfl), h2 z hzw]
      unfold stP
      rw [e2 z hx]
  · by_cases hx : (X n).id = z
    · subst hx
      rw [Go.Maps.has_put_same hT.isMap (by trivial), e1]
      exact (decide_eq_true (by omega)).symm
    · rw [Go.Maps.has_put_other (by intro e; cases e; exact hx rfl), h3 z hzw, e2 z hx]
  · rw [Go.Maps.size_put hT, h3 _ hz, h4, decide_eq_false (by omega), firsts, if_pos hf]
    rfl
theorem stP_none {ao : Option Addr} {X : Nat → Nd} {n : Nat} {z : Int} (h : firstN X z n < 0) : stP ao X n z = .pointer none := if_pos h
theorem stP_at {b o : Nat} {X : Nat → Nd} {n k : Nat} {z : Int} (h : firstN X z n = (k : Int)) : stP (some ⟨b, o, none⟩) X n z = .pointer (some ⟨b, o + k * 31, none⟩) := by
  unfold stP; rw [if_neg (by omega), h]; rfl
/-- How deep, as the program goes: d tells how far it has come. -/
def depthM (X : Nat → Nd) (n : Nat) : Nat → Int → Int → Int
  | 0, _, _ => 0
  | fuel + 1, d, id => if firstN X id n < 0 then 0 else if (X (firstN X id n).toNat).par = 0 then d else depthM X n fuel (d + 1) (X (firstN X id n).toNat).par
theorem depthM_is {X : Nat → Nd} {n : Nat} : ∀ (fuel : Nat) (d id : Int), id ≠ 0 → depthM X n fuel d id = depthN X n (fuel + 1) (d - 1) id
  | 0, d, id, h => by
    unfold depthM depthN
    rw [if_neg h]
    split
    · rfl
    · rfl
  | fuel + 1, d, id, h => by
    unfold depthM
    rw [depthN, if_neg h]
    by_cases h1 : firstN X id n < 0
    · rw [if_pos h1, if_pos h1]
    · rw [if_neg h1, if_neg h1]
      by_cases h2 : (X (firstN X id n).toNat).par = 0
      · rw [if_pos h2, depthN, if_pos h2]; omega
      · rw [if_neg h2, depthM_is fuel (d + 1) _ h2, show d + 1 - 1 = d - 1 + 1 by omega]
/-- What the program's DepthOf answers. -/
def depthJ (X : Nat → Nd) (n : Nat) (id : Int) : Int := depthM X n 8 1 id
theorem depthJ_is {X : Nat → Nd} {n : Nat} {id : Int} (h : id ≠ 0 ∨ firstN X 0 n < 0) : depthJ X n id = depthI X n id := by
  by_cases h0 : id = 0
  · subst h0
    have h1 : firstN X 0 n < 0 := h.resolve_left (fun e => e rfl)
    unfold depthJ depthM depthI depthN
    rw [if_pos h1, if_pos rfl]
  · unfold depthJ depthI
    rw [depthM_is 8 1 id h0]
    rfl
theorem depthM_no {X : Nat → Nd} {n fuel : Nat} {d id : Int} (h : firstN X id n < 0) : depthM X n (fuel + 1) d id = 0 := by unfold depthM; rw [if_pos h]
theorem depthM_end {X : Nat → Nd} {n fuel k : Nat} {d id : Int} (h : firstN X id n = (k : Int)) (h2 : (X k).par = 0) : depthM X n (fuel + 1) d id = d := by
  rw [depthM, if_neg (by omega), h]; exact if_pos h2
theorem depthM_up {X : Nat → Nd} {n fuel k : Nat} {d id : Int} (h : firstN X id n = (k : Int)) (h2 : (X k).par ≠ 0) : depthM X n (fuel + 1) d id = depthM X n fuel (d + 1) (X k).par := by
  rw [depthM, if_neg (by omega), h]; exact if_neg h2
end Go.Proofs.YtdbphpekhmlmdabGreat

/-
  The program's paints: right colours, laid ones, right paints.
-/
namespace Go.Proofs.YtdbphpekhmlmdabGreat
open Go.RowKit
set_option linter.unusedVariables false

theorem implPartOk_any (x : Int) (w : World) :
    Calls Tryz.prog 126 #[.int .i64 x] w fun e w' => e = .returned (.bool (inB x 0 255)) ∧ w' = w := by
  by_cases h1 : 0 ≤ x
  · by_cases h2 : x ≤ 255
    · have H : Hid (true = inB x 0 255) := (inB_true.2 ⟨h1, h2⟩).symm
      go_enter Tryz.func126, Tryz.ntmps126
      go_wp2_with fail
      go_ret
      exact ⟨ret_bool (unhide H), rfl⟩
    · have H : Hid (false = inB x 0 255) := by unfold Hid inB; simp [h1, h2]
      go_enter Tryz.func126, Tryz.ntmps126
      go_wp2_with fail
      go_ret
      exact ⟨ret_bool (unhide H), rfl⟩
  · have H : Hid (false = inB x 0 255) := by unfold Hid inB; simp [h1]
    go_enter Tryz.func126, Tryz.ntmps126
    go_wp2_with fail
    go_ret
    exact ⟨ret_bool (unhide H), rfl⟩

set_option maxHeartbeats 4000000 in
set_option maxRecDepth 100000 in
theorem implColorOk_any (r g b a : Int) (w : World) :
    Calls Tryz.prog 152 #[.agg #[.int .i64 r, .int .i64 g, .int .i64 b, .int .i64 a]] w fun e w' => e = .returned (.bool (colorOkB ⟨r, g, b, a⟩)) ∧ Below w.heap.size w w' := by
  have E0 := hide (implPartOk_any r)
  have E1 := hide (implPartOk_any g)
  have E2 := hide (implPartOk_any b)
  have E3 := hide (implPartOk_any a)
  have H : Hid ((inB r 0 255 && (inB g 0 255 && (inB b 0 255 && inB a 0 255))) = colorOkB ⟨r, g, b, a⟩) := rfl
  generalize inB r 0 255 = i0 at E0 H
  generalize inB g 0 255 = i1 at E1 H
  generalize inB b 0 255 = i2 at E2 H
  generalize inB a 0 255 = i3 at E3 H
  generalize colorOkB ⟨r, g, b, a⟩ = X at H ⊢
  go_enter Tryz.func152, Tryz.ntmps152
  go_upto_region 1 with fail
  have R := hide (new_row w (.cells #[.int .i64 r, .int .i64 g, .int .i64 b, .int .i64 a] 53))
  have HB := hide (al1_below w (.cells #[.int .i64 r, .int .i64 g, .int .i64 b, .int .i64 a] 53))
  generalize w.alloc (.cells #[.int .i64 r, .int .i64 g, .int .i64 b, .int .i64 a] 53) = W at R HB ⊢
  obtain ⟨r0, r1, r2, r3⟩ := row4 (unhide R)
  go_wp2_with fail
  go_fit (unhide E0 _)
  rintro e u2 ⟨rfl, rfl⟩
  cases i0 with
  | false =>
    go_wp2_with fail
    go_ret
    exact ⟨ret_bool (unhide H), unhide HB⟩
  | true =>
  go_wp2_with fail
  go_fit (unhide E1 _)
  rintro e u2 ⟨rfl, rfl⟩
  cases i1 with
  | false =>
    go_wp2_with fail
    go_ret
    exact ⟨ret_bool (unhide H), unhide HB⟩
  | true =>
  go_wp2_with fail
  go_fit (unhide E2 _)
  rintro e u2 ⟨rfl, rfl⟩
  cases i2 with
  | false =>
    go_wp2_with fail
    go_ret
    exact ⟨ret_bool (unhide H), unhide HB⟩
  | true =>
  go_wp2_with fail
  go_fit (unhide E3 _)
  rintro e u2 ⟨rfl, rfl⟩
  go_wp2_with fail
  go_ret
  exact ⟨ret_bool (unhide H), unhide HB⟩

end Go.Proofs.YtdbphpekhmlmdabGreat

/-
  The program's paints: right paints.
-/
namespace Go.Proofs.YtdbphpekhmlmdabGreat
open Go.RowKit
set_option linter.unusedVariables false

theorem eqlColor_at (n : Nat) (a b c d e f g h : Int) (w : World) : (Op.equalIn (n + 2) 53 (.agg #[.int .i64 a, .int .i64 b, .int .i64 c, .int .i64 d]) (.agg #[.int .i64 e, .int .i64 f, .int .i64 g, .int .i64 h])).run Tryz.prog w = .ok (decide (a = e) && (decide (b = f) && (decide (c = g) && decide (d = h)))) w := by
  have u3 := Tryz.underlying3
  have a3 := Tryz.isAgg3
  have z3 := Tryz.sizeOf3
  have hS : Tryz.prog.underlying 53 = some (.struct (Tryz.prog.fieldsOf 53)) := by kernel_rfl
  rw [show n + 2 = (n + 1) + 1 from rfl, run_equalIn_agg w (n + 1) 53 _ _ hS (by kernel_rfl)]
  simp only [Program.fieldsOf, Tryz.underlying53]
  go_simp
  by_cases h1 : a = e
  · by_cases h2 : b = f
    · by_cases h3 : c = g
      · by_cases h4 : d = h <;> simp [h1, h2, h3, h4]
      · simp [h1, h2, h3]
    · simp [h1, h2]
  · simp [h1]

theorem eqlPt_at (n : Nat) (x y a b : Int) (w : World) : (Op.equalIn (n + 2) 55 (.agg #[.int .i64 x, .int .i64 y]) (.agg #[.int .i64 a, .int .i64 b])).run Tryz.prog w = .ok (decide (x = a) && decide (y = b)) w := by
  have u3 := Tryz.underlying3
  have a3 := Tryz.isAgg3
  have z3 := Tryz.sizeOf3
  have hS : Tryz.prog.underlying 55 = some (.struct (Tryz.prog.fieldsOf 55)) := by kernel_rfl
  rw [show n + 2 = (n + 1) + 1 from rfl, run_equalIn_agg w (n + 1) 55 _ _ hS (by kernel_rfl)]
  simp only [Program.fieldsOf, Tryz.underlying55]
  go_simp
  by_cases h1 : x = a <;> by_cases h2 : y = b <;> simp [h1, h2]

theorem eqlPlain (r g b a r2 g2 b2 a2 fx fy tx ty : Int) (w : World) : (Op.equalIn 10000 57 (.agg #[.int .i64 1, .int .i64 r, .int .i64 g, .int .i64 b, .int .i64 a, .int .i64 r2, .int .i64 g2, .int .i64 b2, .int .i64 a2, .int .i64 fx, .int .i64 fy, .int .i64 tx, .int .i64 ty]) (.agg #[.int .i64 1, .int .i64 r, .int .i64 g, .int .i64 b, .int .i64 a, .int .i64 0, .int .i64 0, .int .i64 0, .int .i64 0, .int .i64 0, .int .i64 0, .int .i64 0, .int .i64 0])).run Tryz.prog w = .ok (zeroB ⟨r2, g2, b2, a2⟩ && (decide (fx = 0 ∧ fy = 0) && decide (tx = 0 ∧ ty = 0))) w := by
  have u3 := Tryz.underlying3
  have a3 := Tryz.isAgg3
  have z3 := Tryz.sizeOf3
  have a4 := Tryz.isAgg53
  have z4 := Tryz.sizeOf53
  have a5 := Tryz.isAgg55
  have z5 := Tryz.sizeOf55
  have hS : Tryz.prog.underlying 57 = some (.struct (Tryz.prog.fieldsOf 57)) := by kernel_rfl
  have e1 := eqlColor_at 9997
  have e2 := eqlPt_at 9997
  rw [show (10000 : Nat) = 9999 + 1 from rfl, run_equalIn_agg w 9999 57 _ _ hS (by kernel_rfl)]
  simp only [Program.fieldsOf, Tryz.underlying57]
  go_simp
  unfold zeroB
  by_cases h1 : r2 = 0 <;> simp only [h1, true_implies, false_implies, decide_true, decide_false, Bool.true_and, Bool.false_and, if_true]
  by_cases h2 : g2 = 0 <;> simp only [h2, true_implies, false_implies, decide_true, decide_false, Bool.true_and, Bool.false_and, if_true]
  by_cases h3 : b2 = 0 <;> simp only [h3, true_implies, false_implies, decide_true, decide_false, Bool.true_and, Bool.false_and, if_true]
  by_cases h4 : a2 = 0 <;> simp only [h4, not_true, not_false_eq_true, if_true, if_false, decide_true, decide_false, Bool.true_and, Bool.false_and]
  by_cases h5 : fx = 0 <;> simp only [h5, true_implies, false_implies, decide_true, decide_false, Bool.true_and, Bool.false_and, if_true]
  by_cases h6 : fy = 0 <;> simp only [h6, not_true, not_false_eq_true, if_true, if_false, decide_true, decide_false, Bool.true_and, Bool.false_and]
  by_cases h7 : tx = 0 <;> simp only [h7, true_implies, false_implies, decide_true, decide_false, Bool.true_and, Bool.false_and, if_true]
  by_cases h8 : ty = 0 <;> simp only [h8, not_true, not_false_eq_true, if_true, if_false, decide_true, decide_false]

/-- Two points in a row of their own. -/
def twoPt (fx fy tx ty : Int) : Nat → Int × Int := fun i => if i = 0 then (fx, fy) else (tx, ty)
theorem twoPt_arg {w : World} {q : Nat} {fx fy tx ty : Int} {t : TypeId} (h : w.heap[q]? = some (.cells #[.int .i64 fx, .int .i64 fy, .int .i64 tx, .int .i64 ty] t (0, 0))) (i : Nat) (hi : i < 2) : PtArg w (some ⟨q, 0, none⟩) i (twoPt fx fy tx ty i) := by
  obtain ⟨c0, c1, c2, c3⟩ := row4 h
  match i, hi with
  | 0, _ => exact ⟨q, 0, rfl, c0, c1⟩
  | 1, _ => exact ⟨q, 0, rfl, c2, c3⟩
theorem twoPt_ok (fx fy tx ty : Int) : (pointOkB fx fy && pointOkB tx ty) = true ↔ ∀ i, i < 2 → pointOkB (twoPt fx fy tx ty i).1 (twoPt fx fy tx ty i).2 = true := by
  rw [Bool.and_eq_true]
  constructor
  · intro h i hi
    match i, hi with
    | 0, _ => exact h.1
    | 1, _ => exact h.2
  · intro h
    exact ⟨h 0 (by omega), h 1 (by omega)⟩

set_option maxHeartbeats 8000000 in
set_option maxRecDepth 100000 in
theorem implPaintOk_any (k r g b a r2 g2 b2 a2 fx fy tx ty : Int) (w : World) :
    Calls Tryz.prog 128 #[.agg #[.int .i64 k, .int .i64 r, .int .i64 g, .int .i64 b, .int .i64 a, .int .i64 r2, .int .i64 g2, .int .i64 b2, .int .i64 a2, .int .i64 fx, .int .i64 fy, .int .i64 tx, .int .i64 ty]] w fun e w' => e = .returned (.bool (paintOkB ⟨k, ⟨r, g, b, a⟩, ⟨r2, g2, b2, a2⟩, fx, fy, tx, ty⟩)) ∧ Below w.heap.size w w' := by
  have EF := hide (implColorOk_any r g b a)
  have EL := hide (implColorOk_any r2 g2 b2 a2)
  have EA : Hid (∀ (q : Nat) (u : World), u.heap[q]? = some (.cells #[.int .i64 fx, .int .i64 fy, .int .i64 tx, .int .i64 ty] 55 (0, 0)) → Calls Tryz.prog 130 #[.slice (some ⟨q, 0, none⟩) 2 2] u fun e w' => e = .returned (.bool (pointOkB fx fy && pointOkB tx ty)) ∧ Below u.heap.size u w') := fun q u h =>
    implAllRight_any (twoPt fx fy tx ty) _ 2 2 (by omega) u _ (twoPt_ok fx fy tx ty) (fun i hi => twoPt_arg h i hi)
  have H : Hid ((colorOkB ⟨r, g, b, a⟩ && ((decide (k = 1) && (zeroB ⟨r2, g2, b2, a2⟩ && (decide (fx = 0 ∧ fy = 0) && decide (tx = 0 ∧ ty = 0)))) || (decide (k = 2) && (colorOkB ⟨r2, g2, b2, a2⟩ && ((pointOkB fx fy && pointOkB tx ty) && !decide (fx = tx ∧ fy = ty)))))) = paintOkB ⟨k, ⟨r, g, b, a⟩, ⟨r2, g2, b2, a2⟩, fx, fy, tx, ty⟩) := by unfold Hid paintOkB; rw [Bool.and_assoc]
  have q1 : ∀ u, (Op.equalIn 10000 57 (.agg #[.int .i64 1, .int .i64 r, .int .i64 g, .int .i64 b, .int .i64 a, .int .i64 r2, .int .i64 g2, .int .i64 b2, .int .i64 a2, .int .i64 fx, .int .i64 fy, .int .i64 tx, .int .i64 ty]) (.agg #[.int .i64 1, .int .i64 r, .int .i64 g, .int .i64 b, .int .i64 a, .int .i64 0, .int .i64 0, .int .i64 0, .int .i64 0, .int .i64 0, .int .i64 0, .int .i64 0, .int .i64 0])).run Tryz.prog u = .ok (zeroB ⟨r2, g2, b2, a2⟩ && (decide (fx = 0 ∧ fy = 0) && decide (tx = 0 ∧ ty = 0))) u := fun u => eqlPlain r g b a r2 g2 b2 a2 fx fy tx ty u
  have q4 : ∀ u, (Op.equalIn 10000 55 (.agg #[.int .i64 fx, .int .i64 fy]) (.agg #[.int .i64 tx, .int .i64 ty])).run Tryz.prog u = .ok (decide (fx = tx ∧ fy = ty)) u := fun u => by rw [eqlPt, Bool.decide_and]
  generalize colorOkB ⟨r, g, b, a⟩ = X1 at EF H
  generalize (zeroB ⟨r2, g2, b2, a2⟩ && (decide (fx = 0 ∧ fy = 0) && decide (tx = 0 ∧ ty = 0))) = zl at q1 H
  generalize colorOkB ⟨r2, g2, b2, a2⟩ = X2 at EL H
  generalize (pointOkB fx fy && pointOkB tx ty) = X3 at EA H
  generalize decide (fx = tx ∧ fy = ty) = z3 at q4 H
  generalize paintOkB ⟨k, ⟨r, g, b, a⟩, ⟨r2, g2, b2, a2⟩, fx, fy, tx, ty⟩ = X at H ⊢
  go_enter Tryz.func128, Tryz.ntmps128
  go_upto_region 1 with fail
  have R1 := hide (new_row w (.cells #[.int .i64 k, .int .i64 r, .int .i64 g, .int .i64 b, .int .i64 a, .int .i64 r2, .int .i64 g2, .int .i64 b2, .int .i64 a2, .int .i64 fx, .int .i64 fy, .int .i64 tx, .int .i64 ty] 57))
  have HB := hide (al1_below w (.cells #[.int .i64 k, .int .i64 r, .int .i64 g, .int .i64 b, .int .i64 a, .int .i64 r2, .int .i64 g2, .int .i64 b2, .int .i64 a2, .int .i64 fx, .int .i64 fy, .int .i64 tx, .int .i64 ty] 57))
  obtain ⟨b1, hb1⟩ : ∃ b, Hid (b = w.heap.size) := ⟨_, rfl⟩
  rw [← unhide hb1] at R1
  rw [← unhide hb1]
  generalize w.alloc (.cells #[.int .i64 k, .int .i64 r, .int .i64 g, .int .i64 b, .int .i64 a, .int .i64 r2, .int .i64 g2, .int .i64 b2, .int .i64 a2, .int .i64 fx, .int .i64 fy, .int .i64 tx, .int .i64 ty] 57) = W at R1 HB ⊢
  clear hb1
  obtain ⟨c0, c1, c2, c3, c4, c5, c6, c7, c8, c9, c10, c11, c12⟩ := row13 (unhide R1)
  go_wp2_with fail
  go_fit (unhide EF _)
  rintro e w1 ⟨rfl, hb⟩
  replace R1 := hide (row_next hb (unhide R1))
  replace HB := hide (below_two (unhide HB) hb)
  clear hb c0 c1 c2 c3 c4 c5 c6 c7 c8 c9 c10 c11 c12
  obtain ⟨c0, c1, c2, c3, c4, c5, c6, c7, c8, c9, c10, c11, c12⟩ := row13 (unhide R1)
  cases X1 with
  | false =>
    go_wp2_with fail
    go_ret
    exact ⟨ret_bool (unhide H), unhide HB⟩
  | true =>
  by_cases hk1 : k = 1
  · subst hk1
    have hX := hide (show zl = X by have := unhide H; simpa using this)
    clear H
    go_wp2_with fail
    go_ret
    exact ⟨ret_bool (unhide hX), unhide HB⟩
  · have hkb : (k == 1) = false := beq_eq_false_iff_ne.2 hk1
    rw [decide_eq_false hk1] at H
    by_cases hk2 : k = 2
    · subst hk2
      have hX := hide (show (X2 && (X3 && !z3)) = X by have := unhide H; simpa using this)
      clear H
      go_wp2_with fail
      go_fit (unhide EL _)
      rintro e w2 ⟨rfl, hb⟩
      replace R1 := hide (row_next hb (unhide R1))
      replace HB := hide (below_two (unhide HB) hb)
      clear hb c0 c1 c2 c3 c4 c5 c6 c7 c8 c9 c10 c11 c12
      obtain ⟨c0, c1, c2, c3, c4, c5, c6, c7, c8, c9, c10, c11, c12⟩ := row13 (unhide R1)
      cases X2 with
      | false =>
        go_wp2_with fail
        go_ret
        exact ⟨ret_bool (unhide hX), unhide HB⟩
      | true =>
      go_wp2_with fail
      have R2 := hide (new_row w2 (.cells #[.int .i64 fx, .int .i64 fy, .int .i64 tx, .int .i64 ty] 55))
      replace R1 := hide (row_next (al1_below w2 (.cells #[.int .i64 fx, .int .i64 fy, .int .i64 tx, .int .i64 ty] 55)) (unhide R1))
      replace HB := hide (below_two (unhide HB) (al1_below w2 (.cells #[.int .i64 fx, .int .i64 fy, .int .i64 tx, .int .i64 ty] 55)))
      generalize w2.alloc (.cells #[.int .i64 fx, .int .i64 fy, .int .i64 tx, .int .i64 ty] 55) = W2 at R1 R2 HB ⊢
      go_fit (unhide EA _ _ (unhide R2))
      rintro e w3 ⟨rfl, hb⟩
      replace R1 := hide (row_next hb (unhide R1))
      replace HB := hide (below_two (unhide HB) hb)
      clear hb c0 c1 c2 c3 c4 c5 c6 c7 c8 c9 c10 c11 c12
      obtain ⟨c0, c1, c2, c3, c4, c5, c6, c7, c8, c9, c10, c11, c12⟩ := row13 (unhide R1)
      cases X3 with
      | false =>
        go_wp2_with fail
        go_ret
        exact ⟨ret_bool (unhide hX), unhide HB⟩
      | true =>
        go_wp2_with fail
        go_ret
        exact ⟨ret_bool (unhide hX), unhide HB⟩
    · have hkb2 : (k == 2) = false := beq_eq_false_iff_ne.2 hk2
      rw [decide_eq_false hk2] at H
      have hX := hide (show false = X by have := unhide H; simpa using this)
      go_wp2_with fail
      go_ret
      exact ⟨ret_bool (unhide hX), unhide HB⟩
end Go.Proofs.YtdbphpekhmlmdabGreat

/-
  The program's modeOk.
-/
namespace Go.Proofs.YtdbphpekhmlmdabGreat
open Go.RowKit
set_option linter.unusedVariables false

theorem implModeOk_any (x : Int) (w : World) :
    Calls Tryz.prog 125 #[.int .i64 x] w fun e w' => e = .returned (.bool (inB x 1 5)) ∧ w' = w := by
  by_cases h1 : 1 ≤ x
  · by_cases h2 : x ≤ 5
    · have H : Hid (true = inB x 1 5) := (inB_true.2 ⟨h1, h2⟩).symm
      go_enter Tryz.func125, Tryz.ntmps125
      go_wp2_with fail
      go_ret
      exact ⟨ret_bool (unhide H), rfl⟩
    · have H : Hid (false = inB x 1 5) := by unfold Hid inB; simp [h1, h2]
      go_enter Tryz.func125, Tryz.ntmps125
      go_wp2_with fail
      go_ret
      exact ⟨ret_bool (unhide H), rfl⟩
  · have H : Hid (false = inB x 1 5) := by unfold Hid inB; simp [h1]
    go_enter Tryz.func125, Tryz.ntmps125
    go_wp2_with fail
    go_ret
    exact ⟨ret_bool (unhide H), rfl⟩
end Go.Proofs.YtdbphpekhmlmdabGreat

/-
  The program's nodes: idsOk, modeOk, shapeless, NodeOk. (By nodei.py.)
-/
namespace Go.Proofs.YtdbphpekhmlmdabGreat
open Go.RowKit
set_option linter.unusedVariables false

def idsB (a b : Int) : Bool := inB a 1 99 && (inB b 0 99 && !decide (a = b))
def shapelessB (x : Nd) : Bool := noPaintB x.pt && (decide (x.nv = 0) && (decide (x.wd = 0) && (decide (x.nd = 0) && !x.ev)))
theorem right_none {vf : Nat → Int} {n : Nat} {pf : Nat → Int × Int} {m : Nat} (h : rightB vf n pf m = true) (hn : n = 0) : m = 0 := by
  subst hn
  obtain ⟨_, _, _, _, h5⟩ := rightB_iff.1 h
  exact h5.symm
theorem shapeless_is {x : Nd} (h : rightB x.vf x.nv x.pf x.np = true) : (noPathB x.nv x.np && (noPaintB x.pt && (decide (x.wd = 0) && (decide (x.nd = 0) && !x.ev)))) = shapelessB x := by
  unfold shapelessB noPathB
  by_cases hn : x.nv = 0
  · rw [decide_eq_true hn, decide_eq_true (right_none h hn)]
    simp
  · rw [decide_eq_false hn]
    simp
theorem nodeOk_is (x : Nd) : nodeOkB x = (idsB x.id x.par && (matOkB x.m0 x.m1 x.m2 x.m3 x.m4 x.m5 && (rightB x.vf x.nv x.pf x.np && (rightB x.wf x.mv x.qf x.mp && (inB x.wd 0 2048 && (dashOkB x.nd x.df && (inB x.md 1 5 && (inB x.fd 0 255 && (if x.gr = true then shapelessB x else paintOkB x.pt))))))))) := by
  unfold nodeOkB
  by_cases hr : rightB x.vf x.nv x.pf x.np = true
  · rw [shapeless_is hr]
    unfold idsB
    simp only [Bool.and_assoc]
  · have : rightB x.vf x.nv x.pf x.np = false := by simpa using hr
    rw [this]
    simp

theorem implIdsOk_any (a b : Int) (w : World) :
    Calls Tryz.prog 123 #[.int .i64 a, .int .i64 b] w fun e w' => e = .returned (.bool (idsB a b)) ∧ w' = w := by
  by_cases h1 : 1 ≤ a
  rotate_left
  · have H : Hid (false = idsB a b) := by unfold Hid idsB inB; simp [h1]
    go_enter Tryz.func123, Tryz.ntmps123
    go_wp2_with fail
    go_ret
    exact ⟨ret_bool (unhide H), rfl⟩
  by_cases h2 : a ≤ 99
  rotate_left
  · have H : Hid (false = idsB a b) := by unfold Hid idsB inB; simp [h2]
    go_enter Tryz.func123, Tryz.ntmps123
    go_wp2_with fail
    go_ret
    exact ⟨ret_bool (unhide H), rfl⟩
  by_cases h3 : 0 ≤ b
  rotate_left
  · have H : Hid (false = idsB a b) := by unfold Hid idsB inB; simp [h3]
    go_enter Tryz.func123, Tryz.ntmps123
    go_wp2_with fail
    go_ret
    exact ⟨ret_bool (unhide H), rfl⟩
  by_cases h4 : b ≤ 99
  rotate_left
  · have H : Hid (false = idsB a b) := by unfold Hid idsB inB; simp [h4]
    go_enter Tryz.func123, Tryz.ntmps123
    go_wp2_with fail
    go_ret
    exact ⟨ret_bool (unhide H), rfl⟩
  have H : Hid ((a != b) = idsB a b) := by
    unfold Hid idsB inB
    by_cases h5 : a = b <;> simp [h1, h2, h3, h4, h5]
  go_enter Tryz.func123, Tryz.ntmps123
  go_wp2_with fail
  go_ret
  exact ⟨ret_bool (unhide H), rfl⟩

set_option maxHeartbeats 8000000 in
set_option maxRecDepth 100000 in
theorem implShapeless_any (x : Nd) (s : Na) (w : World) : Calls Tryz.prog 127 #[.agg #[.int .i64 x.id, .int .i64 x.par, .bool x.gr, .int .i64 x.m0, .int .i64 x.m1, .int .i64 x.m2, .int .i64 x.m3, .int .i64 x.m4, .int .i64 x.m5, .slice s.av x.nv s.cv, .slice s.ap x.np s.cp, .bool x.ev, .int .i64 x.wd, .slice s.ad x.nd s.cd, .int .i64 x.pt.k, .int .i64 x.pt.f.x0, .int .i64 x.pt.f.y0, .int .i64 x.pt.f.x1, .int .i64 x.pt.f.y1, .int .i64 x.pt.l.x0, .int .i64 x.pt.l.y0, .int .i64 x.pt.l.x1, .int .i64 x.pt.l.y1, .int .i64 x.pt.fx, .int .i64 x.pt.fy, .int .i64 x.pt.tx, .int .i64 x.pt.ty, .int .i64 x.md, .int .i64 x.fd, .slice s.bv x.mv s.dv, .slice s.bp x.mp s.dp]] w fun r w' => r = .returned (.bool (shapelessB x)) ∧ Below w.heap.size w w' := by
  have q := eqlNone x.pt.k x.pt.f.x0 x.pt.f.y0 x.pt.f.x1 x.pt.f.y1 x.pt.l.x0 x.pt.l.y0 x.pt.l.x1 x.pt.l.y1 x.pt.fx x.pt.fy x.pt.tx x.pt.ty
  have hT : Hid (shapelessB x = (noPaintB x.pt && (decide (x.nv = 0) && (decide (x.wd = 0) && (decide (x.nd = 0) && !x.ev))))) := rfl
  generalize shapelessB x = T at hT ⊢
  have e : noPaintB ⟨x.pt.k, ⟨x.pt.f.x0, x.pt.f.y0, x.pt.f.x1, x.pt.f.y1⟩, ⟨x.pt.l.x0, x.pt.l.y0, x.pt.l.x1, x.pt.l.y1⟩, x.pt.fx, x.pt.fy, x.pt.tx, x.pt.ty⟩ = noPaintB x.pt := rfl
  rw [e] at q
  clear e
  generalize noPaintB x.pt = i1 at q hT
  go_enter Tryz.func127, Tryz.ntmps127
  go_upto_region 1 with fail
  have R := hide (new_row w (.cells #[.int .i64 x.id, .int .i64 x.par, .bool x.gr, .int .i64 x.m0, .int .i64 x.m1, .int .i64 x.m2, .int .i64 x.m3, .int .i64 x.m4, .int .i64 x.m5, .slice s.av x.nv s.cv, .slice s.ap x.np s.cp, .bool x.ev, .int .i64 x.wd, .slice s.ad x.nd s.cd, .int .i64 x.pt.k, .int .i64 x.pt.f.x0, .int .i64 x.pt.f.y0, .int .i64 x.pt.f.x1, .int .i64 x.pt.f.y1, .int .i64 x.pt.l.x0, .int .i64 x.pt.l.y0, .int .i64 x.pt.l.x1, .int .i64 x.pt.l.y1, .int .i64 x.pt.fx, .int .i64 x.pt.fy, .int .i64 x.pt.tx, .int .i64 x.pt.ty, .int .i64 x.md, .int .i64 x.fd, .slice s.bv x.mv s.dv, .slice s.bp x.mp s.dp] 59))
  have HB := hide (al1_below w (.cells #[.int .i64 x.id, .int .i64 x.par, .bool x.gr, .int .i64 x.m0, .int .i64 x.m1, .int .i64 x.m2, .int .i64 x.m3, .int .i64 x.m4, .int .i64 x.m5, .slice s.av x.nv s.cv, .slice s.ap x.np s.cp, .bool x.ev, .int .i64 x.wd, .slice s.ad x.nd s.cd, .int .i64 x.pt.k, .int .i64 x.pt.f.x0, .int .i64 x.pt.f.y0, .int .i64 x.pt.f.x1, .int .i64 x.pt.f.y1, .int .i64 x.pt.l.x0, .int .i64 x.pt.l.y0, .int .i64 x.pt.l.x1, .int .i64 x.pt.l.y1, .int .i64 x.pt.fx, .int .i64 x.pt.fy, .int .i64 x.pt.tx, .int .i64 x.pt.ty, .int .i64 x.md, .int .i64 x.fd, .slice s.bv x.mv s.dv, .slice s.bp x.mp s.dp] 59))
  generalize w.alloc (.cells #[.int .i64 x.id, .int .i64 x.par, .bool x.gr, .int .i64 x.m0, .int .i64 x.m1, .int .i64 x.m2, .int .i64 x.m3, .int .i64 x.m4, .int .i64 x.m5, .slice s.av x.nv s.cv, .slice s.ap x.np s.cp, .bool x.ev, .int .i64 x.wd, .slice s.ad x.nd s.cd, .int .i64 x.pt.k, .int .i64 x.pt.f.x0, .int .i64 x.pt.f.y0, .int .i64 x.pt.f.x1, .int .i64 x.pt.f.y1, .int .i64 x.pt.l.x0, .int .i64 x.pt.l.y0, .int .i64 x.pt.l.x1, .int .i64 x.pt.l.y1, .int .i64 x.pt.fx, .int .i64 x.pt.fy, .int .i64 x.pt.tx, .int .i64 x.pt.ty, .int .i64 x.md, .int .i64 x.fd, .slice s.bv x.mv s.dv, .slice s.bp x.mp s.dp] 59) = W at R HB ⊢
  obtain ⟨b1, hb1⟩ : ∃ z, Hid (z = w.heap.size) := ⟨_, rfl⟩
  rw [← unhide hb1] at R ⊢
  clear hb1
  obtain ⟨c0, c1, c2, c3, c4, c5, c6, c7, c8, c9, c10, c11, c12, c13, c14, c15, c16, c17, c18, c19, c20, c21, c22, c23, c24, c25, c26, c27, c28, c29, c30⟩ := row31 (unhide R)
  cases i1 with
  | false =>
    go_wp2_with fail
    go_ret
    exact ⟨ret_bool (by rw [unhide hT]; rfl), unhide HB⟩
  | true =>
  by_cases h1 : x.nv = 0
  rotate_left
  · have q1 : ((x.nv : Int) == 0) = false := beq_eq_false_iff_ne.2 (by omega)
    have hX := hide (show false = T by rw [unhide hT, decide_eq_false h1]; rfl)
    clear h1
    go_wp2_with fail
    go_ret
    exact ⟨ret_bool (unhide hX), unhide HB⟩
  have q1 : ((x.nv : Int) == 0) = true := beq_iff_eq.2 (by omega)
  by_cases h2 : x.wd = 0
  rotate_left
  · have q2 : (x.wd == 0) = false := beq_eq_false_iff_ne.2 h2
    have hX := hide (show false = T by rw [unhide hT, decide_eq_true h1, decide_eq_false h2]; rfl)
    clear h1 h2
    go_wp2_with fail
    go_ret
    exact ⟨ret_bool (unhide hX), unhide HB⟩
  have q2 : (x.wd == 0) = true := beq_iff_eq.2 h2
  by_cases h3 : x.nd = 0
  rotate_left
  · have q3 : ((x.nd : Int) == 0) = false := beq_eq_false_iff_ne.2 (by omega)
    have hX := hide (show false = T by rw [unhide hT, decide_eq_true h1, decide_eq_true h2, decide_eq_false h3]; rfl)
    clear h1 h2 h3
    go_wp2_with fail
    go_ret
    exact ⟨ret_bool (unhide hX), unhide HB⟩
  have q3 : ((x.nd : Int) == 0) = true := beq_iff_eq.2 (by omega)
  have hX := hide (show (!x.ev) = T by rw [unhide hT, decide_eq_true h1, decide_eq_true h2, decide_eq_true h3]; rfl)
  clear h1 h2 h3
  go_wp2_with fail
  go_ret
  exact ⟨ret_bool (unhide hX), unhide HB⟩

theorem implShapeless_c (x : Nd) (s : Na) (w : World) : Calls Tryz.prog 127 #[.agg (ndC x s)] w fun r w' => r = .returned (.bool (shapelessB x)) ∧ Below w.heap.size w w' := implShapeless_any x s w
theorem row_c {w : World} {b : Nat} {x : Nd} {s : Na} {t : TypeId} (h : w.heap[b]? = some (.cells #[.int .i64 x.id, .int .i64 x.par, .bool x.gr, .int .i64 x.m0, .int .i64 x.m1, .int .i64 x.m2, .int .i64 x.m3, .int .i64 x.m4, .int .i64 x.m5, .slice s.av x.nv s.cv, .slice s.ap x.np s.cp, .bool x.ev, .int .i64 x.wd, .slice s.ad x.nd s.cd, .int .i64 x.pt.k, .int .i64 x.pt.f.x0, .int .i64 x.pt.f.y0, .int .i64 x.pt.f.x1, .int .i64 x.pt.f.y1, .int .i64 x.pt.l.x0, .int .i64 x.pt.l.y0, .int .i64 x.pt.l.x1, .int .i64 x.pt.l.y1, .int .i64 x.pt.fx, .int .i64 x.pt.fy, .int .i64 x.pt.tx, .int .i64 x.pt.ty, .int .i64 x.md, .int .i64 x.fd, .slice s.bv x.mv s.dv, .slice s.bp x.mp s.dp] t (0, 0))) : w.heap[b]? = some (.cells (ndC x s) t (0, 0)) := h

set_option maxHeartbeats 8000000 in
set_option maxRecDepth 100000 in
theorem implNodeOk_any (x : Nd) (s : Na) (hs : x.Small) (w : World) (h : NdIn w x s) :
    Calls Tryz.prog 91 #[.agg #[.int .i64 x.id, .int .i64 x.par, .bool x.gr, .int .i64 x.m0, .int .i64 x.m1, .int .i64 x.m2, .int .i64 x.m3, .int .i64 x.m4, .int .i64 x.m5, .slice s.av x.nv s.cv, .slice s.ap x.np s.cp, .bool x.ev, .int .i64 x.wd, .slice s.ad x.nd s.cd, .int .i64 x.pt.k, .int .i64 x.pt.f.x0, .int .i64 x.pt.f.y0, .int .i64 x.pt.f.x1, .int .i64 x.pt.f.y1, .int .i64 x.pt.l.x0, .int .i64 x.pt.l.y0, .int .i64 x.pt.l.x1, .int .i64 x.pt.l.y1, .int .i64 x.pt.fx, .int .i64 x.pt.fy, .int .i64 x.pt.tx, .int .i64 x.pt.ty, .int .i64 x.md, .int .i64 x.fd, .slice s.bv x.mv s.dv, .slice s.bp x.mp s.dp]] w fun r w' => r = .returned (.bool (nodeOkB x)) ∧ Below w.heap.size w w' := by
  have E1 := hide (implIdsOk_any x.id x.par)
  have E4 := hide (implMatOk_any x.m0 x.m1 x.m2 x.m3 x.m4 x.m5)
  have E5 := hide (fun u => implPathOk_any x.vf x.pf s.av s.ap x.nv s.cv x.np s.cp hs.nv hs.np u _ rightB_iff)
  have E6 := hide (fun u => implPathOk_any x.wf x.qf s.bv s.bp x.mv s.dv x.mp s.dp hs.mv hs.mp u _ rightB_iff)
  have E8 := hide (fun u => implDashOk_any x.df s.ad x.nd s.cd hs.nd u)
  have E9 := hide (implModeOk_any x.md)
  have E10 := hide (implPartOk_any x.fd)
  have E11 := hide (implPaintOk_any x.pt.k x.pt.f.x0 x.pt.f.y0 x.pt.f.x1 x.pt.f.y1 x.pt.l.x0 x.pt.l.y0 x.pt.l.x1 x.pt.l.y1 x.pt.fx x.pt.fy x.pt.tx x.pt.ty)
  have E12 := hide (implShapeless_c x s)
  replace h := hide h
  rw [nodeOk_is]
  generalize idsB x.id x.par = i1 at E1 ⊢
  generalize matOkB x.m0 x.m1 x.m2 x.m3 x.m4 x.m5 = i4 at E4 ⊢
  generalize rightB x.vf x.nv x.pf x.np = i5 at E5 ⊢
  generalize rightB x.wf x.mv x.qf x.mp = i6 at E6 ⊢
  have h7 : Hid (∀ b, (inB x.wd 0 2048 && b) = (!(decide (x.wd < 0) || decide (2048 < x.wd)) && b)) := fun b => by
    congr 1
    unfold inB
    by_cases a1 : x.wd < 0
    · rw [decide_eq_true a1, decide_eq_false (by omega)]; rfl
    · rw [decide_eq_false a1, decide_eq_true (by omega)]
      by_cases a2 : 2048 < x.wd
      · rw [decide_eq_true a2, decide_eq_false (by omega)]; rfl
      · rw [decide_eq_false a2, decide_eq_true (by omega)]; rfl
  rw [unhide h7]
  clear h7
  generalize dashOkB x.nd x.df = i8 at E8 ⊢
  generalize inB x.md 1 5 = i9 at E9 ⊢
  generalize inB x.fd 0 255 = i10 at E10 ⊢
  obtain ⟨i7, hi7⟩ : ∃ z, Hid ((!(decide (x.wd < 0) || decide (2048 < x.wd))) = z) := ⟨_, rfl⟩
  rw [unhide hi7]
  obtain ⟨T, hT⟩ : ∃ z, Hid ((if x.gr = true then shapelessB x else paintOkB x.pt) = z) := ⟨_, rfl⟩
  rw [unhide hT]
  generalize hp : paintOkB x.pt = i11 at hT
  replace E11 := hide (show ∀ u, Calls Tryz.prog 128 #[.agg #[.int .i64 x.pt.k, .int .i64 x.pt.f.x0, .int .i64 x.pt.f.y0, .int .i64 x.pt.f.x1, .int .i64 x.pt.f.y1, .int .i64 x.pt.l.x0, .int .i64 x.pt.l.y0, .int .i64 x.pt.l.x1, .int .i64 x.pt.l.y1, .int .i64 x.pt.fx, .int .i64 x.pt.fy, .int .i64 x.pt.tx, .int .i64 x.pt.ty]] u fun e w' => e = .returned (.bool i11) ∧ Below u.heap.size u w' by rw [← hp]; exact unhide E11)
  clear hp
  generalize shapelessB x = i12 at E12 hT
  go_enter Tryz.func91, Tryz.ntmps91
  go_upto_region 1 with fail
  have R := hide (new_row w (.cells #[.int .i64 x.id, .int .i64 x.par, .bool x.gr, .int .i64 x.m0, .int .i64 x.m1, .int .i64 x.m2, .int .i64 x.m3, .int .i64 x.m4, .int .i64 x.m5, .slice s.av x.nv s.cv, .slice s.ap x.np s.cp, .bool x.ev, .int .i64 x.wd, .slice s.ad x.nd s.cd, .int .i64 x.pt.k, .int .i64 x.pt.f.x0, .int .i64 x.pt.f.y0, .int .i64 x.pt.f.x1, .int .i64 x.pt.f.y1, .int .i64 x.pt.l.x0, .int .i64 x.pt.l.y0, .int .i64 x.pt.l.x1, .int .i64 x.pt.l.y1, .int .i64 x.pt.fx, .int .i64 x.pt.fy, .int .i64 x.pt.tx, .int .i64 x.pt.ty, .int .i64 x.md, .int .i64 x.fd, .slice s.bv x.mv s.dv, .slice s.bp x.mp s.dp] 59))
  have HB := hide (al1_below w (.cells #[.int .i64 x.id, .int .i64 x.par, .bool x.gr, .int .i64 x.m0, .int .i64 x.m1, .int .i64 x.m2, .int .i64 x.m3, .int .i64 x.m4, .int .i64 x.m5, .slice s.av x.nv s.cv, .slice s.ap x.np s.cp, .bool x.ev, .int .i64 x.wd, .slice s.ad x.nd s.cd, .int .i64 x.pt.k, .int .i64 x.pt.f.x0, .int .i64 x.pt.f.y0, .int .i64 x.pt.f.x1, .int .i64 x.pt.f.y1, .int .i64 x.pt.l.x0, .int .i64 x.pt.l.y0, .int .i64 x.pt.l.x1, .int .i64 x.pt.l.y1, .int .i64 x.pt.fx, .int .i64 x.pt.fy, .int .i64 x.pt.tx, .int .i64 x.pt.ty, .int .i64 x.md, .int .i64 x.fd, .slice s.bv x.mv s.dv, .slice s.bp x.mp s.dp] 59))
  have HN := hide ((unhide h).next (al1_below w (.cells #[.int .i64 x.id, .int .i64 x.par, .bool x.gr, .int .i64 x.m0, .int .i64 x.m1, .int .i64 x.m2, .int .i64 x.m3, .int .i64 x.m4, .int .i64 x.m5, .slice s.av x.nv s.cv, .slice s.ap x.np s.cp, .bool x.ev, .int .i64 x.wd, .slice s.ad x.nd s.cd, .int .i64 x.pt.k, .int .i64 x.pt.f.x0, .int .i64 x.pt.f.y0, .int .i64 x.pt.f.x1, .int .i64 x.pt.f.y1, .int .i64 x.pt.l.x0, .int .i64 x.pt.l.y0, .int .i64 x.pt.l.x1, .int .i64 x.pt.l.y1, .int .i64 x.pt.fx, .int .i64 x.pt.fy, .int .i64 x.pt.tx, .int .i64 x.pt.ty, .int .i64 x.md, .int .i64 x.fd, .slice s.bv x.mv s.dv, .slice s.bp x.mp s.dp] 59)))
  clear h
  generalize w.alloc (.cells #[.int .i64 x.id, .int .i64 x.par, .bool x.gr, .int .i64 x.m0, .int .i64 x.m1, .int .i64 x.m2, .int .i64 x.m3, .int .i64 x.m4, .int .i64 x.m5, .slice s.av x.nv s.cv, .slice s.ap x.np s.cp, .bool x.ev, .int .i64 x.wd, .slice s.ad x.nd s.cd, .int .i64 x.pt.k, .int .i64 x.pt.f.x0, .int .i64 x.pt.f.y0, .int .i64 x.pt.f.x1, .int .i64 x.pt.f.y1, .int .i64 x.pt.l.x0, .int .i64 x.pt.l.y0, .int .i64 x.pt.l.x1, .int .i64 x.pt.l.y1, .int .i64 x.pt.fx, .int .i64 x.pt.fy, .int .i64 x.pt.tx, .int .i64 x.pt.ty, .int .i64 x.md, .int .i64 x.fd, .slice s.bv x.mv s.dv, .slice s.bp x.mp s.dp] 59) = W at R HB HN ⊢
  obtain ⟨b1, hb1⟩ : ∃ z, Hid (z = w.heap.size) := ⟨_, rfl⟩
  rw [← unhide hb1] at R ⊢
  clear hb1
  obtain ⟨c0, c1, c2, c3, c4, c5, c6, c7, c8, c9, c10, c11, c12, c13, c14, c15, c16, c17, c18, c19, c20, c21, c22, c23, c24, c25, c26, c27, c28, c29, c30⟩ := row31 (unhide R)
  go_wp2_with fail
  go_fit (unhide E1 _)
  rintro r u1 ⟨rfl, hu⟩
  rw [hu]
  clear hu u1 c0 c1 c2 c3 c4 c5 c6 c7 c8 c9 c10 c11 c12 c13 c14 c15 c16 c17 c18 c19 c20 c21 c22 c23 c24 c25 c26 c27 c28 c29 c30
  cases i1 with
  | false =>
    go_wp2_with fail
    go_ret
    exact ⟨rfl, unhide HB⟩
  | true =>
  obtain ⟨c0, c1, c2, c3, c4, c5, c6, c7, c8, c9, c10, c11, c12, c13, c14, c15, c16, c17, c18, c19, c20, c21, c22, c23, c24, c25, c26, c27, c28, c29, c30⟩ := row31 (unhide R)
  go_wp2_with fail
  go_fit (unhide E4 _)
  rintro r u1 ⟨rfl, hb⟩
  replace R := hide (row_next hb (unhide R))
  replace HN := hide ((unhide HN).next hb)
  replace HB := hide (below_two (unhide HB) hb)
  clear hb c0 c1 c2 c3 c4 c5 c6 c7 c8 c9 c10 c11 c12 c13 c14 c15 c16 c17 c18 c19 c20 c21 c22 c23 c24 c25 c26 c27 c28 c29 c30
  cases i4 with
  | false =>
    go_wp2_with fail
    go_ret
    exact ⟨rfl, unhide HB⟩
  | true =>
  obtain ⟨c0, c1, c2, c3, c4, c5, c6, c7, c8, c9, c10, c11, c12, c13, c14, c15, c16, c17, c18, c19, c20, c21, c22, c23, c24, c25, c26, c27, c28, c29, c30⟩ := row31 (unhide R)
  have F := hide (unhide E5 _ (unhide HN).v (unhide HN).p)
  go_wp2_with fail
  go_fit (unhide F)
  rintro r u1 ⟨rfl, hb⟩
  replace R := hide (row_next hb (unhide R))
  replace HN := hide ((unhide HN).next hb)
  replace HB := hide (below_two (unhide HB) hb)
  clear hb F c0 c1 c2 c3 c4 c5 c6 c7 c8 c9 c10 c11 c12 c13 c14 c15 c16 c17 c18 c19 c20 c21 c22 c23 c24 c25 c26 c27 c28 c29 c30
  cases i5 with
  | false =>
    go_wp2_with fail
    go_ret
    exact ⟨rfl, unhide HB⟩
  | true =>
  obtain ⟨c0, c1, c2, c3, c4, c5, c6, c7, c8, c9, c10, c11, c12, c13, c14, c15, c16, c17, c18, c19, c20, c21, c22, c23, c24, c25, c26, c27, c28, c29, c30⟩ := row31 (unhide R)
  have F := hide (unhide E6 _ (unhide HN).cv (unhide HN).cp)
  go_wp2_with fail
  go_fit (unhide F)
  rintro r u1 ⟨rfl, hb⟩
  replace R := hide (row_next hb (unhide R))
  replace HN := hide ((unhide HN).next hb)
  replace HB := hide (below_two (unhide HB) hb)
  clear hb F c0 c1 c2 c3 c4 c5 c6 c7 c8 c9 c10 c11 c12 c13 c14 c15 c16 c17 c18 c19 c20 c21 c22 c23 c24 c25 c26 c27 c28 c29 c30
  cases i6 with
  | false =>
    go_wp2_with fail
    go_ret
    exact ⟨rfl, unhide HB⟩
  | true =>
  by_cases a1 : x.wd < 0
  · have h7 : i7 = false := by rw [← unhide hi7, decide_eq_true a1]; rfl
    subst h7
    obtain ⟨c0, c1, c2, c3, c4, c5, c6, c7, c8, c9, c10, c11, c12, c13, c14, c15, c16, c17, c18, c19, c20, c21, c22, c23, c24, c25, c26, c27, c28, c29, c30⟩ := row31 (unhide R)
    go_wp2_with fail
    go_ret
    exact ⟨rfl, unhide HB⟩
  by_cases a2 : 2048 < x.wd
  · have h7 : i7 = false := by rw [← unhide hi7, decide_eq_false a1, decide_eq_true a2]; rfl
    subst h7
    obtain ⟨c0, c1, c2, c3, c4, c5, c6, c7, c8, c9, c10, c11, c12, c13, c14, c15, c16, c17, c18, c19, c20, c21, c22, c23, c24, c25, c26, c27, c28, c29, c30⟩ := row31 (unhide R)
    go_wp2_with fail
    go_ret
    exact ⟨rfl, unhide HB⟩
  have h7 : i7 = true := by rw [← unhide hi7, decide_eq_false a1, decide_eq_false a2]; rfl
  subst h7
  obtain ⟨c0, c1, c2, c3, c4, c5, c6, c7, c8, c9, c10, c11, c12, c13, c14, c15, c16, c17, c18, c19, c20, c21, c22, c23, c24, c25, c26, c27, c28, c29, c30⟩ := row31 (unhide R)
  have F := hide (unhide E8 _ (unhide HN).d)
  go_wp2_with fail
  go_fit (unhide F)
  rintro r u1 ⟨rfl, hu⟩
  rw [hu]
  clear hu u1 F c0 c1 c2 c3 c4 c5 c6 c7 c8 c9 c10 c11 c12 c13 c14 c15 c16 c17 c18 c19 c20 c21 c22 c23 c24 c25 c26 c27 c28 c29 c30
  cases i8 with
  | false =>
    go_wp2_with fail
    go_ret
    exact ⟨rfl, unhide HB⟩
  | true =>
  obtain ⟨c0, c1, c2, c3, c4, c5, c6, c7, c8, c9, c10, c11, c12, c13, c14, c15, c16, c17, c18, c19, c20, c21, c22, c23, c24, c25, c26, c27, c28, c29, c30⟩ := row31 (unhide R)
  go_wp2_with fail
  go_fit (unhide E9 _)
  rintro r u1 ⟨rfl, hu⟩
  rw [hu]
  clear hu u1 c0 c1 c2 c3 c4 c5 c6 c7 c8 c9 c10 c11 c12 c13 c14 c15 c16 c17 c18 c19 c20 c21 c22 c23 c24 c25 c26 c27 c28 c29 c30
  cases i9 with
  | false =>
    go_wp2_with fail
    go_ret
    exact ⟨rfl, unhide HB⟩
  | true =>
  obtain ⟨c0, c1, c2, c3, c4, c5, c6, c7, c8, c9, c10, c11, c12, c13, c14, c15, c16, c17, c18, c19, c20, c21, c22, c23, c24, c25, c26, c27, c28, c29, c30⟩ := row31 (unhide R)
  go_wp2_with fail
  go_fit (unhide E10 _)
  rintro r u1 ⟨rfl, hu⟩
  rw [hu]
  clear hu u1 c0 c1 c2 c3 c4 c5 c6 c7 c8 c9 c10 c11 c12 c13 c14 c15 c16 c17 c18 c19 c20 c21 c22 c23 c24 c25 c26 c27 c28 c29 c30
  cases i10 with
  | false =>
    go_wp2_with fail
    go_ret
    exact ⟨rfl, unhide HB⟩
  | true =>
  by_cases hg : x.gr = true
  · clear E11
    have q3 := (row31 (unhide R)).2.2.1
    rw [hg] at q3
    have hX := hide (show i12 = T by rw [← unhide hT, if_pos hg])
    clear hg
    go_upto_region 6 with fail
    clear q3
    go_wp2_with (refine load_own rfl _ rfl b1 rfl x s 59 (row_c (unhide R)) ?_)
    go_fit (unhide E12 _)
    rintro r u2 ⟨rfl, hb⟩
    replace HB := hide (below_two (unhide HB) hb)
    clear hb
    go_wp2_with fail
    go_ret
    exact ⟨ret_bool (unhide hX), unhide HB⟩
  · clear E12
    have hgf : x.gr = false := by simpa using hg
    obtain ⟨c0, c1, c2, c3, c4, c5, c6, c7, c8, c9, c10, c11, c12, c13, c14, c15, c16, c17, c18, c19, c20, c21, c22, c23, c24, c25, c26, c27, c28, c29, c30⟩ := row31 (unhide R)
    rw [hgf] at c2
    go_wp2_with fail
    go_fit (unhide E11 _)
    rintro r u2 ⟨rfl, hb⟩
    replace HB := hide (below_two (unhide HB) hb)
    clear hb c0 c1 c2 c3 c4 c5 c6 c7 c8 c9 c10 c11 c12 c13 c14 c15 c16 c17 c18 c19 c20 c21 c22 c23 c24 c25 c26 c27 c28 c29 c30
    have hX := hide (show i11 = T by rw [← unhide hT, if_neg hg])
    go_wp2_with fail
    go_ret
    exact ⟨ret_bool (unhide hX), unhide HB⟩
end Go.Proofs.YtdbphpekhmlmdabGreat

/-
  The program's scenes: NodeAt, KidsOf, standingOf, mayHold, depthOf, depthOk.
-/
namespace Go.Proofs.YtdbphpekhmlmdabGreat
open Go.RowKit
set_option linter.unusedVariables false

theorem implNodeAt1_any (x : Nd) (s : Na) (q : Nat) (id : Int) (w : World) (h : w.cell? ⟨q, 0, none⟩ = some (.int .i64 id)) :
    Calls Tryz.prog 56 #[.agg (ndC x s), .pointer (some ⟨q, 0, none⟩)] w fun r w' => r = .returned (.bool (x.id == id)) ∧ Below w.heap.size w w' := by
  go_enter Tryz.func56, Tryz.ntmps56
  go_upto_region 1 with fail
  have R := hide (new_row w (.cells (ndC x s) 59))
  have HB := hide (al1_below w (.cells (ndC x s) 59))
  have c1 := kc (unhide HB) h
  clear h
  generalize w.alloc (.cells (ndC x s) 59) = W at R HB c1 ⊢
  obtain ⟨b1, hb1⟩ : ∃ z, Hid (z = w.heap.size) := ⟨_, rfl⟩
  rw [← unhide hb1] at R ⊢
  clear hb1
  obtain ⟨c0, _, _⟩ := headsC (unhide R)
  go_wp2_with fail
  go_ret
  exact ⟨rfl, unhide HB⟩

set_option maxHeartbeats 4000000 in
set_option maxRecDepth 100000 in
theorem implIndexFunc_any (X : Nat → Nd) (A : Nat → Na) (ao : Option Addr) (n cp : Nat) (hn : n ≤ 1048576) (q : Nat) (id : Int) (w : World) (h : w.cell? ⟨q, 0, none⟩ = some (.int .i64 id)) (P : ∀ i, i < n → NrAt w ao i (X i) (A i)) :
    Calls Tryz.prog 55 #[.slice ao n cp, .func (.func 56) #[] #[.pointer (some ⟨q, 0, none⟩)]] w fun r w' => r = .returned (.int .i64 (firstN X id n)) ∧ Below w.heap.size w w' := by
  have hno : Hid ((∀ j, j < n → (X j).id ≠ id) → firstN X id n = -1) := first_none
  have hyes : Hid (∀ k, (∀ j, j < k → (X j).id ≠ id) → (X k).id = id → k < n → firstN X id n = (k : Int)) := fun k h1 h2 h3 => first_at h1 h2 h3
  generalize firstN X id n = Z at hno hyes ⊢
  replace P := hide P
  replace h := hide h
  go_enter Tryz.func55, Tryz.ntmps55
  go_upto_region 2 with fail
  go_loopw [8] (fun i u => ∃ k : Nat, k ≤ n ∧ i = .int .i64 (k : Int) ∧ Hid (Below w.heap.size w u) ∧ Hid (∀ j, j < k → (X j).id ≠ id)) (fun i _ => n - (intOf i).toNat)
  case atStart => exact ⟨0, Nat.zero_le _, rfl, Below.refl _ _, fun j hj => absurd hj (by omega)⟩
  case round =>
    obtain ⟨k, hk, rfl, HB, HK⟩ := hrel
    by_cases hkn : k < n
    · have hki : (k : Int) < (n : Int) := by omega
      have HP := hide ((unhide P k hkn).next (unhide HB))
      have E := hide (fun u (hu : Below wr.heap.size wr u) => implNodeAt1_any (X k) (A k) q id u (kc hu (kc (unhide HB) (unhide h))))
      have hyk := hide (unhide hyes k (unhide HK))
      have hmore : Hid ((X k).id ≠ id → ∀ j, j < k + 1 → (X j).id ≠ id) := fun hx j hj => by
        by_cases e : j = k
        · subst e; exact hx
        · exact unhide HK j (by omega)
      obtain ⟨xx, hxx⟩ : ∃ z, Hid (X k = z) := ⟨_, rfl⟩
      obtain ⟨ss, hss⟩ : ∃ z, Hid (A k = z) := ⟨_, rfl⟩
      rw [unhide hxx] at HP E hyk hmore
      rw [unhide hss] at HP E
      obtain ⟨b, o, hao, hrg⟩ := (unhide HP).range
      replace hrg := hide hrg
      subst hao
      go_wp2_with (refine load_node rfl _ rfl b (o + k * 31) rfl xx ss (unhide hrg) ?_)
      go_fit (unhide E _ (Below.refl _ _))
      rintro r u1 ⟨rfl, hb⟩
      replace HB := hide (below_two (unhide HB) hb)
      clear hb E hrg HP
      by_cases hx : xx.id = id
      · have hq : (xx.id == id) = true := beq_iff_eq.2 hx
        have hX := hide (unhide hyk hx hkn)
        clear hx
        go_wp2_with fail
        go_ret
        exact ⟨by rw [unhide hX]; rfl, unhide HB⟩
      · have hq : (xx.id == id) = false := beq_eq_false_iff_ne.2 hx
        have HK2 := hide (unhide hmore hx)
        clear hx
        go_wp2_with fail
        go_roundw
        case rel => exact ⟨k + 1, by omega, by go_num, HB, HK2⟩
        case measure => simp [intOf]; omega
    · have hke : k = n := by omega
      subst hke
      have hki : ¬ (k : Int) < (k : Int) := by omega
      have hX := hide (unhide hno (unhide HK))
      go_wp2_with fail
      go_ret
      exact ⟨by rw [unhide hX]; rfl, unhide HB⟩

set_option maxHeartbeats 4000000 in
set_option maxRecDepth 100000 in
theorem implNodeAt_any (X : Nat → Nd) (A : Nat → Na) (ao : Option Addr) (n cp : Nat) (hn : n ≤ 1048576) (id : Int) (w : World) (P : ∀ i, i < n → NrAt w ao i (X i) (A i)) :
    Calls Tryz.prog 24 #[.agg #[.slice ao n cp], .int .i64 id] w fun r w' => r = .returned (.int .i64 (firstN X id n)) ∧ Below w.heap.size w w' := by
  have E := hide (fun u q (h : u.cell? ⟨q, 0, none⟩ = some (.int .i64 id)) => implIndexFunc_any X A ao n cp hn q id u h)
  generalize firstN X id n = Z at E ⊢
  replace P := hide P
  go_enter Tryz.func24, Tryz.ntmps24
  go_upto_region 1 with fail
  have R := hide (old_row (.cells #[.int .i64 id] 3) (new_row w (.cells #[.slice ao n cp] 30)))
  have R2 := hide (new_row (w.alloc (.cells #[.slice ao n cp] 30)) (.cells #[.int .i64 id] 3))
  have HB := hide (al2_below w (.cells #[.slice ao n cp] 30) (.cells #[.int .i64 id] 3))
  rw [show (w.alloc (.cells #[.slice ao n cp] 30)).heap.size = w.heap.size + 1 from al1_size _ _] at R2
  generalize (w.alloc (.cells #[.slice ao n cp] 30)).alloc (.cells #[.int .i64 id] 3) = W at R R2 HB ⊢
  obtain ⟨b1, hb1⟩ : ∃ z, Hid (z = w.heap.size) := ⟨_, rfl⟩
  rw [← unhide hb1] at R R2 ⊢
  clear hb1
  have c0 := row1 (unhide R)
  have c1 := row1 (unhide R2)
  have E2 := hide (unhide E W (b1 + 1) c1 (fun i hi => (unhide P i hi).next (unhide HB)))
  go_wp2_with fail
  go_fit (unhide E2)
  rintro r u1 ⟨rfl, hb⟩
  replace HB := hide (below_two (unhide HB) hb)
  go_wp2_with fail
  go_ret
  exact ⟨rfl, unhide HB⟩

theorem Stand.put_at {w : World} {m n : Nat} {b o : Nat} {X : Nat → Nd} (h : Stand w m (some ⟨b, o, none⟩) X n) (hn : n ≤ 1048576) (hf : firstN X (X n).id n < 0) (hz : (Lit.int .i64 (X n).id).wf = true) :
    ∃ w', (Instr.mapUpdate 93 (.map (some m)) (.int .i64 (X n).id) (.pointer (some ⟨b, o + n * 31, none⟩))).run Tryz.prog w = .ok () w' ∧ Stand w' m (some ⟨b, o, none⟩) X (n + 1) ∧ w.grownBy w' (some m) := h.put hn hf hz

set_option maxHeartbeats 4000000 in
set_option maxRecDepth 100000 in
theorem implStandingOf_any (X : Nat → Nd) (A : Nat → Na) (ao : Option Addr) (n cp : Nat) (hn : n ≤ 1048576) (hf : ∀ i, i < n → (Lit.int .i64 (X i).id).wf = true) (w : World) (P : ∀ i, i < n → NrAt w ao i (X i) (A i)) :
    Calls Tryz.prog 53 #[.agg #[.slice ao n cp]] w fun r w' => ∃ m, r = .returned (.map (some m)) ∧ Stand w' m ao X n ∧ w.heap.size ≤ m ∧ Below w.heap.size w w' := by
  have hmm := @run_makeMap Tryz.prog
  replace P := hide P
  replace hf := hide hf
  go_enter Tryz.func53, Tryz.ntmps53
  go_upto_region 1 with fail
  have R := hide (new_row w (.cells #[.slice ao n cp] 30))
  have HB := hide (al1_below w (.cells #[.slice ao n cp] 30))
  have hm := hide (show w.heap.size < (w.alloc (.cells #[.slice ao n cp] 30)).heap.size by rw [al1_size]; omega)
  generalize w.alloc (.cells #[.slice ao n cp] 30) = W at R HB hm ⊢
  obtain ⟨b1, hb1⟩ : ∃ z, Hid (z = w.heap.size) := ⟨_, rfl⟩
  rw [← unhide hb1] at R hm ⊢
  go_upto_region 2 with fail
  have S := hide (Stand.made W ao X)
  replace R := hide (row_next (al1_below W (.map #[] 0)) (unhide R))
  replace HB := hide (below_two (unhide HB) (al1_below W (.map #[] 0)))
  generalize W.alloc (.map #[] 0) = W2 at R HB S ⊢
  generalize W.heap.size = m at S hm ⊢
  clear hmm
  have c0 := row1 (unhide R)
  go_upto_region 3 with fail
  clear c0
  go_loopw [10] (fun i u => ∃ k : Nat, k ≤ n ∧ i = .int .i64 (k : Int) ∧ Hid (Stand u m ao X k) ∧ Hid (u.heap[b1]? = some (.cells #[.slice ao n cp] 30 (0, 0))) ∧ Hid (Below w.heap.size w u)) (fun i _ => n - (intOf i).toNat)
  case atStart => exact ⟨0, Nat.zero_le _, rfl, S, R, HB⟩
  case round =>
    clear S R HB
    obtain ⟨k, hk, rfl, S, R, HB⟩ := hrel
    have c0 := row1 (unhide R)
    by_cases hkn : k < n
    · have hki : (k : Int) < (n : Int) := by omega
      have hfk := hide (unhide hf k hkn)
      obtain ⟨b, o, hao, g0, g1, g2⟩ := ((unhide P k hkn).next (unhide HB)).heads
      subst hao
      have hl := (unhide S).look (X k).id (unhide hfk)
      by_cases hx : firstN X (X k).id k < 0
      · rw [stP_none hx] at hl
        obtain ⟨w1, hrun, S1, hg⟩ := (unhide S).put_at (by omega) hx (unhide hfk)
        have S1 := hide S1
        have R1 := hide (show w1.heap[b1]? = some (.cells #[.slice (some ⟨b, o, none⟩) n cp] 30 (0, 0)) from (hg.block b1 (heap_lt (unhide R)) (by have := unhide hm; intro e; cases e; omega)).trans (unhide R))
        have HB1 := hide (show Below w.heap.size w w1 from (unhide HB).grown hg (unhide HB).size (fun j hj => by cases hj; have := unhide hm; have := unhide hb1; omega))
        clear hx hg hfk
        go_wp2_with fail
        go_roundw
        case rel => exact ⟨k + 1, by omega, by go_num, S1, R1, HB1⟩
        case measure => simp [intOf]; omega
      · obtain ⟨j, hj, hfj⟩ : ∃ j, j < k ∧ firstN X (X k).id k = (j : Int) := by
          rcases first_is (X := X) (id := (X k).id) k with ⟨e, _⟩ | ⟨j, hj, e, _⟩
          · omega
          · exact ⟨j, hj, e⟩
        rw [stP_at hfj] at hl
        have S1 := hide ((unhide S).skip hx)
        clear hx hfj hfk
        go_wp2_with fail
        go_roundw
        case rel => exact ⟨k + 1, by omega, by go_num, S1, R, HB⟩
        case measure => simp [intOf]; omega
    · have hke : k = n := by omega
      subst hke
      have hki : ¬ (k : Int) < (k : Int) := by omega
      go_wp2_with fail
      go_ret
      exact ⟨m, rfl, unhide S, by have := unhide hm; have := unhide hb1; omega, unhide HB⟩

def holdB (X : Nat → Nd) (n : Nat) (p : Int) : Bool := decide (p = 0) || (decide (0 ≤ firstN X p n) && (X (firstN X p n).toNat).gr)
set_option maxHeartbeats 4000000 in
set_option maxRecDepth 100000 in
theorem implMayHold_any (X : Nat → Nd) (A : Nat → Na) (ao : Option Addr) (n m : Nat) (p : Int) (hp : (Lit.int .i64 p).wf = true) (w : World) (S : Stand w m ao X n) (P : ∀ i, i < n → NrAt w ao i (X i) (A i)) :
    Calls Tryz.prog 92 #[.map (some m), .int .i64 p] w fun r w' => r = .returned (.bool (holdB X n p)) ∧ w' = w := by
  have hT : Hid (holdB X n p = (decide (p = 0) || (decide (0 ≤ firstN X p n) && (X (firstN X p n).toNat).gr))) := rfl
  generalize holdB X n p = T at hT ⊢
  have hl := S.look p hp
  replace P := hide P
  by_cases h0 : p = 0
  · have hq : (p == 0) = true := beq_iff_eq.2 h0
    have hX := hide (show true = T by rw [unhide hT, decide_eq_true h0]; rfl)
    clear h0 hl
    go_enter Tryz.func92, Tryz.ntmps92
    go_wp2_with fail
    go_ret
    exact ⟨ret_bool (unhide hX), rfl⟩
  · have hq : (p == 0) = false := beq_eq_false_iff_ne.2 h0
    rcases first_is (X := X) (id := p) n with ⟨e, _⟩ | ⟨j, hj, e, _, _⟩
    · rw [stP_none (by omega)] at hl
      have hX := hide (show false = T by rw [unhide hT, decide_eq_false h0, decide_eq_false (by omega)]; rfl)
      clear h0 e
      go_enter Tryz.func92, Tryz.ntmps92
      go_wp2_with fail
      go_ret
      exact ⟨ret_bool (unhide hX), rfl⟩
    · obtain ⟨b, o, hao, g0, g1, g2⟩ := (unhide P j hj).heads
      subst hao
      rw [stP_at e] at hl
      have hX := hide (show (X j).gr = T by rw [unhide hT, decide_eq_false h0, decide_eq_true (by omega), e]; rfl)
      clear h0 e
      go_enter Tryz.func92, Tryz.ntmps92
      go_wp2_with fail
      go_ret
      exact ⟨ret_bool (unhide hX), rfl⟩

theorem implDepthOk_any (x : Int) (w : World) :
    Calls Tryz.prog 93 #[.int .i64 x] w fun e w' => e = .returned (.bool (inB x 1 4)) ∧ w' = w := by
  by_cases h1 : 1 ≤ x
  · by_cases h2 : x ≤ 4
    · have H : Hid (true = inB x 1 4) := (inB_true.2 ⟨h1, h2⟩).symm
      go_enter Tryz.func93, Tryz.ntmps93
      go_wp2_with fail
      go_ret
      exact ⟨ret_bool (unhide H), rfl⟩
    · have H : Hid (false = inB x 1 4) := by unfold Hid inB; simp [h1, h2]
      go_enter Tryz.func93, Tryz.ntmps93
      go_wp2_with fail
      go_ret
      exact ⟨ret_bool (unhide H), rfl⟩
  · have H : Hid (false = inB x 1 4) := by unfold Hid inB; simp [h1]
    go_enter Tryz.func93, Tryz.ntmps93
    go_wp2_with fail
    go_ret
    exact ⟨ret_bool (unhide H), rfl⟩

set_option maxHeartbeats 4000000 in
set_option maxRecDepth 100000 in
theorem implDepthOfM_any (X : Nat → Nd) (A : Nat → Na) (ao : Option Addr) (n m : Nat) (hf : ∀ i, i < n → (Lit.int .i64 (X i).par).wf = true) (id : Int) (hid : (Lit.int .i64 id).wf = true) (w : World) (S : Stand w m ao X n) (P : ∀ i, i < n → NrAt w ao i (X i) (A i)) :
    Calls Tryz.prog 94 #[.map (some m), .int .i64 id] w fun r w' => r = .returned (.int .i64 (depthJ X n id)) ∧ w' = w := by
  have hZ : Hid (depthM X n 8 1 id = depthJ X n id) := rfl
  generalize depthJ X n id = Z at hZ ⊢
  replace P := hide P
  replace hf := hide hf
  replace S := hide S
  go_enter Tryz.func94, Tryz.ntmps94
  go_upto_region 2 with fail
  go_loopw [5, 1] (fun i d u => ∃ (k fuel : Nat) (z : Int), k + fuel = 9 ∧ i = .int .i64 (k : Int) ∧ 1 ≤ k ∧ d = .int .i64 z ∧ Hid ((Lit.int .i64 z).wf = true) ∧ Hid (depthM X n fuel (k : Int) z = Z) ∧ u = w) (fun i _ _ => 9 - (intOf i).toNat)
  case atStart => exact ⟨1, 8, id, rfl, rfl, Nat.le_refl _, rfl, hid, hZ, rfl⟩
  case round =>
    clear hZ hid
    obtain ⟨k, fuel, z, hfu, rfl, hk1, rfl, hzw, hZ, rfl⟩ := hrel
    cases fuel with
    | zero =>
      have hki : ¬ (k : Int) ≤ 8 := by omega
      go_wp2_with fail
      go_ret
      exact ⟨by rw [← unhide hZ]; rfl, rfl⟩
    | succ fuel =>
      have hki : (k : Int) ≤ 8 := by omega
      have hk8 : k ≤ 8 := by omega
      have hl := (unhide S).look z (unhide hzw)
      rcases first_is (X := X) (id := z) n with ⟨e, _⟩ | ⟨j, hj, e, _, _⟩
      · rw [stP_none (by omega)] at hl
        have hX := hide (show 0 = Z by rw [← unhide hZ, depthM_no (by omega)])
        clear e
        go_wp2_with fail
        go_ret
        exact ⟨by rw [← unhide hX]; rfl, rfl⟩
      · obtain ⟨b, o, hao, g0, g1, g2⟩ := (unhide P j hj).heads
        subst hao
        rw [stP_at e] at hl
        by_cases h0 : (X j).par = 0
        · have hq : ((X j).par == 0) = true := beq_iff_eq.2 h0
          have hX := hide (show (k : Int) = Z by rw [← unhide hZ, depthM_end e h0])
          clear e h0
          go_wp2_with fail
          go_ret
          exact ⟨by rw [← unhide hX]; rfl, rfl⟩
        · have hq : ((X j).par == 0) = false := beq_eq_false_iff_ne.2 h0
          have hX := hide (show depthM X n fuel ((k : Int) + 1) (X j).par = Z by rw [← unhide hZ, depthM_up e h0])
          have hzw2 := hide (unhide hf j hj)
          clear e h0
          go_wp2_with fail
          go_roundw
          case rel => exact ⟨k + 1, fuel, _, by omega, by go_num, by omega, rfl, hzw2, hX, by trivial⟩
          case measure => simp [intOf]; omega
end Go.Proofs.YtdbphpekhmlmdabGreat

/-
  The program's SceneOk.
-/
namespace Go.Proofs.YtdbphpekhmlmdabGreat
open Go.RowKit
set_option linter.unusedVariables false

theorem implNodeOk_c (x : Nd) (s : Na) (hs : x.Small) (w : World) (h : NdIn w x s) :
    Calls Tryz.prog 91 #[.agg (ndC x s)] w fun r w' => r = .returned (.bool (nodeOkB x)) ∧ Below w.heap.size w w' := implNodeOk_any x s hs w h
theorem okAt_hold {X : Nat → Nd} {n k : Nat} (hf : firstN X (X k).id n = (k : Int)) : okAt X n k = (nodeOkB (X k) && (holdB X n (X k).par && inB (depthJ X n (X k).id) 1 4)) := by
  unfold okAt
  cases hb : nodeOkB (X k) with
  | false => rfl
  | true =>
    have hid : (X k).id ≠ 0 := by
      rw [nodeOk_is] at hb
      simp only [Bool.and_eq_true] at hb
      have h1 := hb.1
      unfold idsB at h1
      simp only [Bool.and_eq_true, inB_true] at h1
      omega
    rw [decide_eq_true hf, depthJ_is (.inl hid)]
    show (true && (true && (inB (depthI X n (X k).id) 1 4 && holdB X n (X k).par))) = _
    simp [Bool.and_comm]

set_option maxHeartbeats 8000000 in
set_option maxRecDepth 100000 in
theorem implSceneOk_any (X : Nat → Nd) (A : Nat → Na) (ao : Option Addr) (n cp : Nat) (hn : n ≤ 1048576) (hs : ∀ i, i < n → (X i).Small) (hw1 : ∀ i, i < n → (Lit.int .i64 (X i).id).wf = true) (hw2 : ∀ i, i < n → (Lit.int .i64 (X i).par).wf = true) (w : World) (P : ∀ i, i < n → NrAt w ao i (X i) (A i)) :
    Calls Tryz.prog 52 #[.agg #[.slice ao n cp]] w fun r w' => r = .returned (.bool (sceneOkB X n)) ∧ Below w.heap.size w w' := by
  have hyes : Hid (n ≤ 8 → (∀ i, i < n → okAt X n i = true) → sceneOkB X n = true) := fun h1 h2 => sceneOk_iff.2 ⟨h1, h2⟩
  have hbig : Hid (¬ n ≤ 8 → sceneOkB X n = false) := fun h => sceneOk_no (fun e => h e.1)
  have hno : Hid (∀ i, i < n → okAt X n i = false → sceneOkB X n = false) := fun i hi h => sceneOk_no (fun e => by have := e.2 i hi; rw [h] at this; cases this)
  have htwo : Hid (firsts X n ≠ n → sceneOkB X n = false) := fun h => by
    obtain ⟨i, hi, e⟩ := firsts_no h
    exact unhide hno i hi (by unfold okAt; rw [decide_eq_false e]; simp)
  generalize sceneOkB X n = Z at hyes hbig hno htwo ⊢
  have ES := hide (fun u => implStandingOf_any X A ao n cp hn hw1 u)
  replace P := hide P
  replace hs := hide hs
  replace hw1 := hide hw1
  replace hw2 := hide hw2
  go_enter Tryz.func52, Tryz.ntmps52
  go_upto_region 1 with fail
  have R := hide (new_row w (.cells #[.slice ao n cp] 30))
  have HB := hide (al1_below w (.cells #[.slice ao n cp] 30))
  obtain ⟨b1, hb1⟩ : ∃ z, Hid (z = w.heap.size) := ⟨_, rfl⟩
  rw [← unhide hb1] at R ⊢
  clear hb1
  generalize w.alloc (.cells #[.slice ao n cp] 30) = W at R HB ⊢
  have c0 := row1 (unhide R)
  by_cases h8 : n ≤ 8
  rotate_left
  · have h8i : (8 : Int) < (n : Int) := by omega
    have hX := hide (unhide hbig h8)
    go_wp2_with fail
    go_ret
    exact ⟨ret_bool (unhide hX).symm, unhide HB⟩
  have h8i : ¬ (8 : Int) < (n : Int) := by omega
  have E1 := hide (unhide ES W (fun i hi => (unhide P i hi).next (unhide HB)))
  go_wp2_with fail
  go_fit (unhide E1)
  rintro r u1 ⟨m, rfl, S, _, hb⟩
  replace S := hide S
  replace R := hide (row_next hb (unhide R))
  replace HB := hide (below_two (unhide HB) hb)
  clear hb c0 E1 ES
  have c0 := row1 (unhide R)
  have hlen := (unhide S).len
  by_cases h9 : firsts X n = n
  rotate_left
  · have hX := hide (unhide htwo h9)
    have hq : (((firsts X n : Nat) : Int) == (n : Int)) = false := beq_eq_false_iff_ne.2 (by omega)
    go_wp2_with fail
    go_ret
    exact ⟨ret_bool (unhide hX).symm, unhide HB⟩
  have hfst := hide (firsts_all h9)
  rw [h9] at hlen
  clear h9
  go_upto_region 7 with fail
  clear c0 hlen
  go_loopw [21] (fun i u => ∃ k : Nat, k ≤ n ∧ i = .int .i64 (k : Int) ∧ Hid (∀ j, j < k → okAt X n j = true) ∧ Hid (Below u1.heap.size u1 u)) (fun i _ => n - (intOf i).toNat)
  case atStart => exact ⟨0, Nat.zero_le _, rfl, fun j hj => absurd hj (by omega), Below.refl _ _⟩
  case round =>
    obtain ⟨k, hk, rfl, HK, D⟩ := hrel
    by_cases hkn : k < n
    · have hki : (k : Int) < (n : Int) := by omega
      replace HB := hide (below_two (unhide HB) (unhide D))
      have HP := hide ((unhide P k hkn).next (unhide HB))
      have hsk := hide (unhide hs k hkn)
      have hval := hide (okAt_hold (unhide hfst k hkn))
      have hnok := hide (unhide hno k hkn)
      have hmore : Hid (okAt X n k = true → ∀ j, j < k + 1 → okAt X n j = true) := fun h j hj => by
        by_cases e : j = k
        · subst e; exact h
        · exact unhide HK j (by omega)
      have hv1 := hide (unhide hw1 k hkn)
      have hv2 := hide (unhide hw2 k hkn)
      obtain ⟨xx, hxx⟩ : ∃ z, Hid (X k = z) := ⟨_, rfl⟩
      obtain ⟨ss, hss⟩ : ∃ z, Hid (A k = z) := ⟨_, rfl⟩
      rw [unhide hxx, unhide hss] at HP
      rw [unhide hxx] at hsk hval hv1 hv2
      obtain ⟨b, o, hao, hrg⟩ := (unhide HP).range
      replace hrg := hide hrg
      subst hao
      as_aux_lemma =>
      go_upto_region 9 with (first | refine load_node rfl _ rfl b (o + k * 31) rfl xx ss (unhide hrg) ?_ | refine store_new rfl _ _ rfl _ xx ss rfl rfl rfl ?_)
      have R4 := hide (new_row wr (.cells (ndC xx ss) 59))
      have D4 := hide (al1_below wr (.cells (ndC xx ss) 59))
      have HI := hide ((unhide HP).inn.next (unhide D4))
      replace HB := hide (below_two (unhide HB) (unhide D4))
      replace D := hide (below_two (unhide D) (unhide D4))
      clear hrg HP D4
      generalize wr.alloc (.cells (ndC xx ss) 59) = W4 at R4 HB HI D ⊢
      generalize wr.heap.size = b4 at R4 ⊢
      as_aux_lemma =>
      have E1 := hide (implNodeOk_c xx ss (unhide hsk) W4 (unhide HI))
      generalize nodeOkB xx = i1 at E1 hval
      go_wp2_with (refine load_own rfl _ rfl b4 rfl xx ss 59 (unhide R4) ?_)
      go_fit (unhide E1)
      rintro r u2 ⟨rfl, hb⟩
      replace R4 := hide (row_next hb (unhide R4))
      replace HB := hide (below_two (unhide HB) hb)
      replace D := hide (below_two (unhide D) hb)
      clear hb E1 HI
      cases i1 with
      | false =>
        have hX := hide (unhide hnok (by rw [unhide hval]; rfl))
        go_wp2_with fail
        go_ret
        exact ⟨ret_bool (unhide hX).symm, unhide HB⟩
      | true =>
      as_aux_lemma =>
      obtain ⟨c0, c1, c2⟩ := headsC (unhide R4)
      have S2 := hide ((unhide S).next (unhide D))
      have E2 := hide (implMayHold_any X A _ n m xx.par (unhide hv2) u2 (unhide S2) (fun i hi => (unhide P i hi).next (unhide HB)))
      have E3 := hide (implDepthOfM_any X A _ n m (unhide hw2) xx.id (unhide hv1) u2 (unhide S2) (fun i hi => (unhide P i hi).next (unhide HB)))
      generalize holdB X n xx.par = i2 at E2 hval
      generalize depthJ X n xx.id = dp at E3 hval
      go_wp2_with fail
      go_fit (unhide E2)
      rintro r u3 ⟨rfl, hu⟩
      rw [hu]
      clear hu u3 E2
      cases i2 with
      | false =>
        have hX := hide (unhide hnok (by rw [unhide hval]; rfl))
        go_wp2_with fail
        go_ret
        exact ⟨ret_bool (unhide hX).symm, unhide HB⟩
      | true =>
      as_aux_lemma =>
      go_wp2_with fail
      go_fit (unhide E3)
      rintro r u3 ⟨rfl, hu⟩
      rw [hu]
      clear hu u3 E3
      have E4 := hide (implDepthOk_any dp)
      generalize inB dp 1 4 = i3 at E4 hval
      go_wp2_with fail
      go_fit (unhide E4 _)
      rintro r u4 ⟨rfl, hu⟩
      rw [hu]
      clear hu u4 E4
      cases i3 with
      | false =>
        have hX := hide (unhide hnok (by rw [unhide hval]; rfl))
        go_wp2_with fail
        go_ret
        exact ⟨ret_bool (unhide hX).symm, unhide HB⟩
      | true =>
      have hgo := hide (unhide hmore (by rw [unhide hval]; rfl))
      go_wp2_with fail
      go_roundw
      case rel => exact ⟨k + 1, by omega, by go_num, hgo, D⟩
      case measure => simp [intOf]; omega
    · have hke : k = n := by omega
      subst hke
      have hki : ¬ (k : Int) < (k : Int) := by omega
      have hX := hide (unhide hyes h8 (unhide HK))
      replace HB := hide (below_two (unhide HB) (unhide D))
      go_wp2_with fail
      go_ret
      exact ⟨ret_bool (unhide hX).symm, unhide HB⟩
end Go.Proofs.YtdbphpekhmlmdabGreat

/-
  Scenes that grow by a node, or whose first node goes to the end: they stay right.
-/
namespace Go.Proofs.YtdbphpekhmlmdabGreat
set_option linter.unusedVariables false

/-- Two scenes that agree at all Ids of S, which has the parents of its nodes: depths are the same. -/
theorem depth_congr {X Y : Nat → Nd} {n m : Nat} {S : Int → Prop}
    (h : ∀ id, S id → id ≠ 0 → (firstN X id n < 0 ↔ firstN Y id m < 0) ∧ (¬ firstN X id n < 0 → (X (firstN X id n).toNat).par = (Y (firstN Y id m).toNat).par ∧ S (X (firstN X id n).toNat).par)) :
    ∀ (f : Nat) (c id : Int), S id → depthN X n f c id = depthN Y m f c id
  | 0, _, _, _ => rfl
  | f + 1, c, id, hs => by
    rw [depthN_succ, depthN_succ]
    by_cases h0 : id = 0
    · rw [if_pos h0, if_pos h0]
    · rw [if_neg h0, if_neg h0]
      obtain ⟨h1, h2⟩ := h id hs h0
      by_cases h3 : firstN X id n < 0
      · rw [if_pos h3, if_pos (h1.1 h3)]
      · rw [if_neg h3, if_neg (fun e => h3 (h1.2 e)), ← (h2 h3).1]
        exact depth_congr h f (c + 1) _ (h2 h3).2
theorem first_lt {X : Nat → Nd} {id : Int} {n : Nat} (h : ¬ firstN X id n < 0) : ∃ k, k < n ∧ firstN X id n = (k : Int) ∧ (X k).id = id := by
  rcases first_is (X := X) (id := id) n with ⟨e, _⟩ | ⟨k, hk, e, e1, _⟩
  · omega
  · exact ⟨k, hk, e, e1⟩
/-- Where the Ids differ, the first is the only one. -/
theorem first_only {X : Nat → Nd} {n k : Nat} (hu : ∀ i j, i < n → j < n → (X i).id = (X j).id → i = j) (hk : k < n) : firstN X (X k).id n = (k : Int) := by
  refine first_at (fun j hj e => ?_) rfl hk
  have := hu j k (by omega) hk e
  omega
theorem first_mem {X : Nat → Nd} {n : Nat} {id : Int} : ¬ firstN X id n < 0 ↔ ∃ k, k < n ∧ (X k).id = id := by
  constructor
  · intro h; obtain ⟨k, h1, _, h3⟩ := first_lt h; exact ⟨k, h1, h3⟩
  · rintro ⟨k, hk, e⟩ hlt
    rcases first_is (X := X) (id := id) n with ⟨_, h⟩ | ⟨j, _, e1, _, _⟩
    · exact h k hk e
    · omega
theorem ScOk.uniq {X : Nat → Nd} {n : Nat} (h : ScOk X n) : ∀ i j, i < n → j < n → (X i).id = (X j).id → i = j := fun i j hi hj e => by
  have a := (okAt_iff.1 (h.2 i hi)).2.1
  have b := (okAt_iff.1 (h.2 j hj)).2.1
  rw [e, b] at a
  omega
theorem par_in {X : Nat → Nd} {n i : Nat} (h : ScOk X n) (hi : i < n) : (X i).par = 0 ∨ ∃ k, k < n ∧ (X k).id = (X i).par ∧ (X k).gr = true := by
  obtain ⟨_, _, _, h4⟩ := okAt_iff.1 (h.2 i hi)
  rcases h4 with h4 | ⟨h4, h5⟩
  · exact .inl h4
  · obtain ⟨k, hk, e, e1⟩ := first_lt (X := X) (n := n) (id := (X i).par) (by omega)
    rw [e] at h5
    exact .inr ⟨k, hk, e1, h5⟩
/-- A depth d is found within d + 1 - c steps. -/
theorem depth_fuel {X : Nat → Nd} {n : Nat} : ∀ {f : Nat} {c id : Int}, 0 ≤ c → 0 < depthN X n f c id → ∀ g : Nat, depthN X n f c id - c < (g : Int) → depthN X n g c id = depthN X n f c id
  | 0, c, id, _, h, _, _ => absurd h (by show ¬ (0 : Int) < 0; omega)
  | f + 1, c, id, hc, h, g, hg => by
    rw [depthN_succ] at h hg ⊢
    by_cases h0 : id = 0
    · rw [if_pos h0] at h hg ⊢
      obtain ⟨q, rfl⟩ : ∃ q, g = q + 1 := ⟨g - 1, by omega⟩
      rw [depthN_succ, if_pos h0]
    · rw [if_neg h0] at h hg ⊢
      by_cases h1 : firstN X id n < 0
      · rw [if_pos h1] at h; omega
      · rw [if_neg h1] at h hg ⊢
        have hle := (depth_more (X := X) (n := n) (f := f) (c := c + 1) (id := (X (firstN X id n).toNat).par) (by omega) (by omega)).1
        obtain ⟨q, rfl⟩ : ∃ q, g = q + 1 := ⟨g - 1, by omega⟩
        rw [depthN_succ, if_neg h0, if_neg h1]
        exact depth_fuel (by omega) h q (by omega)
theorem depth_short {X : Nat → Nd} {n k : Nat} (hS : ScOk X n) (hn : n ≤ 8) (hk : k < n) : depthN X n 8 (0 + 1) (X k).id = depthI X n (X k).id + 1 := by
  obtain ⟨g1, g2, ⟨g3, g4⟩, _⟩ := okAt_iff.1 (hS.2 k hk)
  unfold depthI at g3 g4 ⊢
  have e := depth_fuel (X := X) (n := n) (f := 9) (c := 0) (id := (X k).id) (by omega) (by omega) 8 (by omega)
  have hid := (node_ids g1).1
  have e1 : depthN X n 8 0 (X k).id = depthN X n 7 (0 + 1) (X k).par := by
    rw [depthN_succ, if_neg (by omega), g2, if_neg (by omega)]
    rfl
  have h7 : depthN X n 7 (0 + 1) (X k).par ≠ 0 := by rw [← e1, e]; omega
  have e2 : depthN X n 8 (0 + 1) (X k).id = depthN X n 7 (0 + 1 + 1) (X k).par := by
    rw [depthN_succ, if_neg (by omega), g2, if_neg (by omega)]
    rfl
  rw [e2, (depth_more (by omega) h7).2 7 (0 + 1 + 1) (Nat.le_refl _), ← e1, e]
  omega
/-- One node more at the end. -/
theorem scOk_snoc {X Y : Nat → Nd} {n : Nat} (hS : ScOk X n) (hn : n < 8) (hY : ∀ i, i < n → Y i = X i) (hx : nodeOkB (Y n) = true) (hid : ∀ i, i < n → (X i).id ≠ (Y n).id)
    (hp : (Y n).par = 0 ∨ ∃ k, k < n ∧ (X k).id = (Y n).par ∧ (X k).gr = true ∧ depthI X n (X k).id < 4) : ScOk Y (n + 1) := by
  have hu : ∀ i j, i < n + 1 → j < n + 1 → (Y i).id = (Y j).id → i = j := by
    intro i j hi hj e
    by_cases hi2 : i = n
    · by_cases hj2 : j = n
      · omega
      · rw [hi2, hY j (by omega)] at e; exact absurd e.symm (hid j (by omega))
    · by_cases hj2 : j = n
      · rw [hj2, hY i (by omega)] at e; exact absurd e (hid i (by omega))
      · rw [hY i (by omega), hY j (by omega)] at e; exact hS.uniq i j (by omega) (by omega) e
  have hold : ∀ (f : Nat) (c id : Int), (id = 0 ∨ ∃ k, k < n ∧ (X k).id = id) → depthN X n f c id = depthN Y (n + 1) f c id := by
    refine depth_congr (S := fun id => id = 0 ∨ ∃ k, k < n ∧ (X k).id = id) ?_
    intro id hs h0
    rcases hs with hs | ⟨k, hk, rfl⟩
    · exact absurd hs h0
    · have e1 := first_only hS.uniq hk
      have e2 : firstN Y (X k).id (n + 1) = (k : Int) := by rw [← hY k hk]; exact first_only hu (by omega)
      rw [e1, e2]
      refine ⟨Iff.rfl, fun _ => ?_⟩
      show (X k).par = (Y k).par ∧ _
      rw [hY k hk]
      refine ⟨rfl, ?_⟩
      rcases par_in hS hk with h | ⟨q, hq, e, _⟩
      · exact .inl h
      · exact .inr ⟨q, hq, e⟩
  have hid9 := (node_ids hx).1
  refine ⟨by omega, fun i hi => okAt_iff.2 ?_⟩
  by_cases hin : i = n
  · subst hin
    refine ⟨hx, first_only hu (by omega), ?_, ?_⟩
    · have e : depthI Y (i + 1) (Y i).id = depthN Y (i + 1) 8 (0 + 1) (Y i).par := by
        unfold depthI
        rw [depthN_succ, if_neg (by omega), first_only hu (by omega), if_neg (by omega)]
        rfl
      rw [e]
      rcases hp with hp | ⟨k, hk, e1, _, e3⟩
      · rw [hp]
        exact ⟨by show 1 ≤ (0 : Int) + 1; omega, by show (0 : Int) + 1 ≤ 4; omega⟩
      · have h9 := (okAt_iff.1 (hS.2 k hk)).2.2.1
        have e4 : depthN Y (i + 1) 9 0 (Y i).par = depthI X i (X k).id := by
          rw [← e1]
          exact (hold 9 0 (X k).id (.inr ⟨k, hk, rfl⟩)).symm
        -- the parent stands within eight steps, too: its depth is less than four
        have e5 : depthN X i 8 (0 + 1) (X k).id = depthI X i (X k).id + 1 := by
          exact depth_short hS (by omega) hk
        have e6 : depthN Y (i + 1) 8 (0 + 1) (Y i).par = depthN X i 8 (0 + 1) (X k).id := by
          rw [← e1]
          exact (hold 8 (0 + 1) (X k).id (.inr ⟨k, hk, rfl⟩)).symm
        rw [e6, e5]
        omega
    · rcases hp with hp | ⟨k, hk, e1, e2, _⟩
      · exact .inl hp
      · right
        have e4 : firstN Y (Y i).par (i + 1) = (k : Int) := by rw [← e1, ← hY k hk]; exact first_only hu (by omega)
        rw [e4]
        exact ⟨by omega, by show (Y k).gr = true; rw [hY k hk]; exact e2⟩
  · have hi2 : i < n := by omega
    obtain ⟨g1, g2, g3, g4⟩ := okAt_iff.1 (hS.2 i hi2)
    rw [hY i hi2]
    refine ⟨g1, by rw [← hY i hi2]; exact first_only hu hi, ?_, ?_⟩
    · have : depthI Y (n + 1) (X i).id = depthI X n (X i).id := (hold 9 0 (X i).id (.inr ⟨i, hi2, rfl⟩)).symm
      rw [this]; exact g3
    · rcases par_in hS hi2 with h | ⟨q, hq, e, eg⟩
      · exact .inl h
      · right
        have e4 : firstN Y (X i).par (n + 1) = (q : Int) := by rw [← e, ← hY q hq]; exact first_only hu (by omega)
        rw [e4]
        exact ⟨by omega, by show (Y q).gr = true; rw [hY q hq]; exact eg⟩
/-- The same nodes in another order. -/
theorem scOk_perm {X Y : Nat → Nd} {n : Nat} (hS : ScOk X n) (σ τ : Nat → Nat) (hσ : ∀ i, i < n → σ i < n ∧ τ (σ i) = i ∧ Y i = X (σ i)) (hτ : ∀ j, j < n → τ j < n ∧ σ (τ j) = j) : ScOk Y n := by
  have hY : ∀ j, j < n → Y (τ j) = X j := fun j hj => by rw [(hσ _ (hτ j hj).1).2.2, (hτ j hj).2]
  have hu : ∀ i j, i < n → j < n → (Y i).id = (Y j).id → i = j := by
    intro i j hi hj e
    rw [(hσ i hi).2.2, (hσ j hj).2.2] at e
    have := hS.uniq _ _ (hσ i hi).1 (hσ j hj).1 e
    rw [← (hσ i hi).2.1, ← (hσ j hj).2.1, this]
  have hf : ∀ k, k < n → firstN Y (X k).id n = (τ k : Int) := fun k hk => by rw [← hY k hk]; exact first_only hu (hτ k hk).1
  have hold : ∀ (f : Nat) (c id : Int), (id = 0 ∨ ∃ k, k < n ∧ (X k).id = id) → depthN X n f c id = depthN Y n f c id := by
    refine depth_congr (S := fun id => id = 0 ∨ ∃ k, k < n ∧ (X k).id = id) ?_
    intro id hs h0
    rcases hs with hs | ⟨k, hk, rfl⟩
    · exact absurd hs h0
    · rw [first_only hS.uniq hk, hf k hk]
      refine ⟨by omega, fun _ => ?_⟩
      show (X k).par = (Y (τ k)).par ∧ _
      rw [hY k hk]
      refine ⟨rfl, ?_⟩
      rcases par_in hS hk with h | ⟨q, hq, e, _⟩
      · exact .inl h
      · exact .inr ⟨q, hq, e⟩
  refine ⟨hS.1, fun i hi => okAt_iff.2 ?_⟩
  obtain ⟨h1, _, h3⟩ := hσ i hi
  obtain ⟨g1, g2, g3, g4⟩ := okAt_iff.1 (hS.2 (σ i) h1)
  refine ⟨by rw [h3]; exact g1, first_only hu hi, ?_, ?_⟩
  · have : depthI Y n (X (σ i)).id = depthI X n (X (σ i)).id := (hold 9 0 _ (.inr ⟨σ i, h1, rfl⟩)).symm
    rw [h3, this]; exact g3
  · rw [h3]
    rcases par_in hS h1 with h | ⟨q, hq, e, eg⟩
    · exact .inl h
    · right
      rw [← e, hf q hq]
      exact ⟨by omega, by show (Y (τ q)).gr = true; rw [hY q hq]; exact eg⟩
theorem scOk_nil (X : Nat → Nd) : ScOk X 0 := ⟨by omega, fun i hi => absurd hi (by omega)⟩
end Go.Proofs.YtdbphpekhmlmdabGreat

/-
  No node of a right scene has the Id 0.
-/
namespace Go.Proofs.YtdbphpekhmlmdabGreat
open Go.RowKit
set_option linter.unusedVariables false

theorem scOk_noZ {X : Nat → Nd} {n : Nat} (hS : ScOk X n) : firstN X 0 n < 0 := by
  rcases first_is (X := X) (id := 0) n with ⟨e, _⟩ | ⟨k, hk, e, e2, _⟩
  · omega
  · have := (node_ids (okAt_iff.1 (hS.2 k hk)).1).1
    omega
end Go.Proofs.YtdbphpekhmlmdabGreat

/-
  Where a node stands: the mats from the outermost down to its own; what both sides reckon.
-/
namespace Go.Proofs.YtdbphpekhmlmdabGreat
open Go.RowKit
set_option linter.unusedVariables false

theorem mrdiv (n : Int) : rdivI (65536 * n) 65536 = n := by unfold rdivI; rw [if_neg (by decide)]; split <;> omega
theorem mcross_l (a c : Int) : crossI a 65536 c 0 = a := by unfold crossI; rw [Int.mul_zero, Int.add_zero, Int.mul_comm]; exact mrdiv a
theorem mcross_r (a c : Int) : crossI a 0 c 65536 = c := by unfold crossI; rw [Int.mul_zero, Int.zero_add, Int.mul_comm]; exact mrdiv c
theorem mcross_n (a c : Int) : crossI a 0 c 0 = 0 := by unfold crossI; rw [Int.mul_zero, Int.mul_zero]; exact mrdiv 0
theorem mstill_ok : matOkB 65536 0 0 65536 0 0 = true := by decide
structure M6 where
  a : Int
  b : Int
  c : Int
  d : Int
  e : Int
  f : Int
def M6.okB (m : M6) : Bool := matOkB m.a m.b m.c m.d m.e m.f
def M6.vs (m : M6) : Array Value := #[.int .i64 m.a, .int .i64 m.b, .int .i64 m.c, .int .i64 m.d, .int .i64 m.e, .int .i64 m.f]
def zero6 : M6 := ⟨0, 0, 0, 0, 0, 0⟩
def still6 : M6 := ⟨65536, 0, 0, 65536, 0, 0⟩
def comp6 (x y : M6) : M6 := ⟨compA x.a x.b x.c x.d x.e x.f y.a y.b y.c y.d y.e y.f, compB x.a x.b x.c x.d x.e x.f y.a y.b y.c y.d y.e y.f, compC x.a x.b x.c x.d x.e x.f y.a y.b y.c y.d y.e y.f, compD x.a x.b x.c x.d x.e x.f y.a y.b y.c y.d y.e y.f, compE x.a x.b x.c x.d x.e x.f y.a y.b y.c y.d y.e y.f, compF x.a x.b x.c x.d x.e x.f y.a y.b y.c y.d y.e y.f⟩
def comp6k (x y : M6) : Bool := compOk x.a x.b x.c x.d x.e x.f y.a y.b y.c y.d y.e y.f
def Nd.mat (x : Nd) : M6 := ⟨x.m0, x.m1, x.m2, x.m3, x.m4, x.m5⟩
/-- From a node upwards: the mat of each, with what is inside. -/
def upM (X : Nat → Nd) (n : Nat) : Nat → Int → M6 → M6 × Bool
  | 0, _, m => (m, true)
  | f + 1, p, m => if firstN X p n < 0 then (m, true) else if comp6k (X (firstN X p n).toNat).mat m = true then upM X n f (X (firstN X p n).toNat).par (comp6 (X (firstN X p n).toNat).mat m) else (zero6, false)
noncomputable def matM (X : Nat → Nd) (n : Nat) (id : Int) : M6 × Bool := if sceneOkB X n = true ∧ ¬ firstN X id n < 0 then upM X n 4 id still6 else (zero6, false)
theorem node_mat {x : Nd} (h : nodeOkB x = true) : x.mat.okB = true := by
  unfold nodeOkB at h
  simp only [Bool.and_eq_true] at h
  exact h.2.2.2.1
theorem comp6_still {m : M6} (h : m.okB = true) : comp6k m still6 = true ∧ comp6 m still6 = m := by
  obtain ⟨a, b, c, d, e, f⟩ := m
  have h1 : matOkB a b c d e f = true := h
  have h2 : compOk a b c d e f 65536 0 0 65536 0 0 = true := by
    unfold compOk
    rw [mcross_l, mcross_l, mcross_r, mcross_r, mcross_n, mcross_n, Int.zero_add, Int.zero_add, h1, mstill_ok]
    rfl
  refine ⟨h2, ?_⟩
  unfold comp6 still6
  simp only
  unfold compA compB compC compD compE compF
  rw [h2, mcross_l, mcross_l, mcross_r, mcross_r, mcross_n, mcross_n, Int.zero_add, Int.zero_add]
  rfl
theorem upM_none {X : Nat → Nd} {n : Nat} {p : Int} (h : firstN X p n < 0) : ∀ (f : Nat) (m : M6), upM X n f p m = (m, true)
  | 0, _ => rfl
  | f + 1, m => by unfold upM; rw [if_pos h]
theorem upM_yes {X : Nat → Nd} {n k : Nat} {p : Int} (h : firstN X p n = (k : Int)) {f : Nat} {m : M6} (hc : comp6k (X k).mat m = true) : upM X n (f + 1) p m = upM X n f (X k).par (comp6 (X k).mat m) := by
  conv => lhs; unfold upM
  rw [if_neg (by omega), h, Int.toNat_natCast, if_pos hc]
theorem upM_no {X : Nat → Nd} {n k : Nat} {p : Int} (h : firstN X p n = (k : Int)) {f : Nat} {m : M6} (hc : comp6k (X k).mat m = false) : upM X n (f + 1) p m = (zero6, false) := by
  conv => lhs; unfold upM
  rw [if_neg (by omega), h, Int.toNat_natCast, if_neg (by rw [hc]; exact Bool.false_ne_true)]
theorem matM_bad {X : Nat → Nd} {n : Nat} {id : Int} (h : sceneOkB X n = false) : matM X n id = (zero6, false) := by
  unfold matM; rw [if_neg (fun e => by rw [h] at e; cases e.1)]
theorem matM_none {X : Nat → Nd} {n : Nat} {id : Int} (h : firstN X id n < 0) : matM X n id = (zero6, false) := by
  unfold matM; rw [if_neg (fun e => e.2 h)]
theorem matM_is {X : Nat → Nd} {n : Nat} {id : Int} (h1 : sceneOkB X n = true) (h : ¬ firstN X id n < 0) : matM X n id = upM X n 4 id still6 := if_pos ⟨h1, h⟩
theorem matM_own {X : Nat → Nd} {n k : Nat} {id : Int} (h1 : sceneOkB X n = true) (hk : k < n) (h : firstN X id n = (k : Int)) : matM X n id = upM X n 3 (X k).par (X k).mat := by
  have hS := sceneOk_iff.1 h1
  obtain ⟨e1, e2⟩ := comp6_still (node_mat (okAt_iff.1 (hS.2 k hk)).1)
  rw [matM_is h1 (by omega), upM_yes h e1, e2]
/-- Above a node: nothing, or a node that is less deep. -/
theorem above {X : Nat → Nd} {n k : Nat} (hS : ScOk X n) (hk : k < n) : (firstN X (X k).par n < 0 ∧ (X k).par = 0) ∨ ∃ j : Nat, j < n ∧ firstN X (X k).par n = (j : Int) ∧ (X j).id = (X k).par := by
  rcases par_in hS hk with h | ⟨j, hj, e, _⟩
  · exact .inl ⟨by rw [h]; exact scOk_noZ hS, h⟩
  · exact .inr ⟨j, hj, by rw [← e]; exact first_only hS.uniq hj, e⟩
theorem mat_deep {X : Nat → Nd} {n : Nat} (hS : ScOk X n) : ∀ i, i < n → 1 ≤ depthI X n (X i).id ∧ depthI X n (X i).id ≤ 4 := fun i hi => (okAt_iff.1 (hS.2 i hi)).2.2.1
theorem depth_par {X : Nat → Nd} {n k : Nat} (hS : ScOk X n) (hk : k < n) : depthI X n (X k).par + 1 = depthI X n (X k).id ∧ depthI X n (X k).id ≤ 4 := ⟨(depth_step hS hk).symm, (mat_deep hS k hk).2⟩
theorem depth_pos {X : Nat → Nd} {n k : Nat} (hS : ScOk X n) (hk : k < n) : 1 ≤ depthI X n (X k).id := (mat_deep hS k hk).1
end Go.Proofs.YtdbphpekhmlmdabGreat

/-
  A mat's six cells as one thing: loads and stores of a whole mat in one step.
-/
namespace Go.Proofs.YtdbphpekhmlmdabGreat
open Go.RowKit
set_option linter.unusedVariables false

/-- The cells of a mat. -/
def mC (m : M6) : Array Value := #[.int .i64 m.a, .int .i64 m.b, .int .i64 m.c, .int .i64 m.d, .int .i64 m.e, .int .i64 m.f]
theorem mC_size (m : M6) : (mC m).size = 6 := rfl
theorem mC_one (m : M6) : (mC m).all (·.oneCell') = true := by unfold mC; simp [Value.oneCell']
theorem mat_size : (Tryz.prog.info? 43).map (·.size) = some 6 := by kernel_rfl
theorem mC_info (m : M6) : (Tryz.prog.info? 43).map (·.size) = some (mC m).size := by rw [mC_size]; exact mat_size
theorem mC_infoL (m : M6) : (Tryz.prog.info? 43).map (·.size) = some (mC m).toList.length := by rw [Array.length_toList]; exact mC_info m
theorem nd_mat {w : World} {b o : Nat} {x : Nd} {s : Na} (h : w.rangeAt b o (ndC x s).toList) : w.rangeAt b (o + 3) (mC x.mat).toList := fun j v hv => by
  have h1 : (ndC x s).toList[3 + j]? = some v := by
    match j, hv with
    | 0, hv => exact hv
    | 1, hv => exact hv
    | 2, hv => exact hv
    | 3, hv => exact hv
    | 4, hv => exact hv
    | 5, hv => exact hv
    | k + 6, hv => simp [mC] at hv
  have := h (3 + j) v h1
  rwa [show o + 3 + j = o + (3 + j) by omega]
theorem mat_rng {w : World} {b : Nat} {C : Array Value} {t : TypeId} (h : w.heap[b]? = some (.cells C t (0, 0))) : w.rangeAt b 0 C.toList := fun j v hv => by
  rw [Array.getElem?_toList] at hv
  simp [World.cell?, h, hv]
/-- A whole mat out of the middle of a row. -/
theorem load_mat {ops : Array Oper} {rest : List Oper} {op : Oper} {a : Act} {w : World} {Q : Exit → Act → World → Prop} (hgd : op.guard = none) (y : Operand) (ho : op.op = .load 43 y)
    (b o : Nat) (hx : a.eval y = .pointer (some ⟨b, o, none⟩)) (m : M6) (hc : w.rangeAt b o (mC m).toList)
    (h : wpList Tryz.prog ops Q rest (a.put op.dst (.agg (mC m))) w) : wpList Tryz.prog ops Q (op :: rest) a w :=
  wpList_load_mid hgd 43 y ho b o hx (mC m).toList _ hc Tryz.underlying43 rfl (mC_infoL m) (by rw [Array.toArray_toList]; exact h)
/-- A whole mat into the variable that was made last. -/
theorem mat_new {ops : Array Oper} {rest : List Oper} {op : Oper} {a : Act} {w : World} {Q : Exit → Act → World → Prop} (hgd : op.guard = none) (y z : Operand) (ho : op.op = .store 43 y z)
    (old : Array Value) (m : M6) (hx : a.eval y = .pointer (some ⟨w.heap.size, 0, none⟩)) (hy : a.eval z = .agg (mC m)) (hold : old.size = 6)
    (h : wpList Tryz.prog ops Q rest (a.put op.dst undef) (w.alloc (.cells (mC m) 43))) : wpList Tryz.prog ops Q (op :: rest) a (w.alloc (.cells old 43)) :=
  wpList_store_row hgd 43 y z ho w.heap.size (mC m) hx hy 43 old (heap_alloc_last w _) (mC_info m) hold (mC_one m) (by rw [World.setRow_alloc_new]; exact h)
/-- A whole mat into a variable. -/
theorem mat_put {ops : Array Oper} {rest : List Oper} {op : Oper} {a : Act} {w : World} {Q : Exit → Act → World → Prop} (hgd : op.guard = none) (y z : Operand) (ho : op.op = .store 43 y z)
    (b : Nat) (old : Array Value) (m : M6) (hx : a.eval y = .pointer (some ⟨b, 0, none⟩)) (hy : a.eval z = .agg (mC m)) (hr : w.heap[b]? = some (.cells old 43 (0, 0))) (hold : old.size = 6)
    (h : wpList Tryz.prog ops Q rest (a.put op.dst undef) (w.setRow b (mC m))) : wpList Tryz.prog ops Q (op :: rest) a w :=
  wpList_store_row hgd 43 y z ho b (mC m) hx hy 43 old hr (mC_info m) hold (mC_one m) h
theorem yields_mat {ops : Array Oper} {S : World → Prop} {op : Oper} {a : Act} (hw : Region.wanted op (yielded ops a.tmps) = true) (y : Operand) (ho : op.op = .load 43 y)
    (b o : Nat) (hx : a.eval y = .pointer (some ⟨b, o, none⟩)) (m : M6) (hS : ∀ w, S w → w.rangeAt b o (mC m).toList) : YieldsIf Tryz.prog ops S op (.agg (mC m)) a := by
  have h := yieldsIf_load_mid (P := Tryz.prog) hw 43 y ho b o hx (mC m).toList _ hS Tryz.underlying43 rfl (mC_infoL m)
  rwa [Array.toArray_toList] at h
theorem mstep_alloc {ops : Array Oper} {oo : Oper} {a : Act} {K : Act → World → Prop} {Q : Exit → Act → World → Prop} {E : Prop} {V : World} (hg : oo.guard = none) (hop : oo.op = .alloc 43)
    (hK : K (a.put oo.dst (.pointer (some ⟨V.heap.size, 0, none⟩))) (V.alloc (.cells (mC zero6) 43))) : if Region.wanted oo (yielded ops a.tmps) = true then Oper.wp Tryz.prog oo a V K Q else E := by
  have hw : Region.wanted oo (yielded ops a.tmps) = true := by simp [Region.wanted, hg]
  rw [if_pos hw]
  obtain ⟨d, op, t, ps, af, gd⟩ := oo
  cases hg
  cases hop
  go_simp
  exact hK
theorem mstep_store {ops : Array Oper} {oo : Oper} {a : Act} {K : Act → World → Prop} {Q : Exit → Act → World → Prop} {E : Prop} {V : World} {z : Nat} {m0 m : M6} (hg : oo.guard = none) (y y' : Operand) (hop : oo.op = .store 43 y y')
    (hx : a.eval y = .pointer (some ⟨z, 0, none⟩)) (hy : a.eval y' = .agg (mC m)) (hZ : V.heap[z]? = some (.cells (mC m0) 43 (0, 0)))
    (hK : K (a.put oo.dst undef) (V.setRow z (mC m))) : if Region.wanted oo (yielded ops a.tmps) = true then Oper.wp Tryz.prog oo a V K Q else E := by
  have hw : Region.wanted oo (yielded ops a.tmps) = true := by simp [Region.wanted, hg]
  rw [if_pos hw]
  exact wp_store_row 43 y y' hop z (mC m) hx hy 43 (mC m0) hZ (mC_info m) ((mC_size m0).trans (mC_size m).symm) (mC_one m) hK
theorem mrow_set {u : World} {b : Nat} {C Z : Array Value} {t : TypeId} (h : u.heap[b]? = some (.cells Z t (0, 0))) : (u.setRow b C).heap[b]? = some (.cells C t (0, 0)) := by
  simp [World.setRow, Array.getElem?_modify, h]
theorem mrow_other {u : World} {b b' : Nat} {C : Array Value} (h : b' ≠ b) : (u.setRow b C).heap[b']? = u.heap[b']? := by
  simp [World.setRow, Array.getElem?_modify, Ne.symm h]
theorem mcells {w : World} {b : Nat} {m : M6} {t : TypeId} (h : w.heap[b]? = some (.cells (mC m) t (0, 0))) : w.cell? ⟨b, 0, none⟩ = some (.int .i64 m.a) ∧ w.cell? ⟨b, 1, none⟩ = some (.int .i64 m.b) ∧ w.cell? ⟨b, 2, none⟩ = some (.int .i64 m.c) ∧ w.cell? ⟨b, 3, none⟩ = some (.int .i64 m.d) ∧ w.cell? ⟨b, 4, none⟩ = some (.int .i64 m.e) ∧ w.cell? ⟨b, 5, none⟩ = some (.int .i64 m.f) := row6 h
theorem ynode {ops : Array Oper} {S : World → Prop} {op : Oper} {a : Act} (hw : Region.wanted op (yielded ops a.tmps) = true) (y : Operand) (ho : op.op = .load 59 y)
    (b o : Nat) (hx : a.eval y = .pointer (some ⟨b, o, none⟩)) (x : Nd) (s : Na) (hS : ∀ w, S w → w.rangeAt b o (ndC x s).toList) : YieldsIf Tryz.prog ops S op (.agg (ndC x s)) a := by
  have h := yieldsIf_load_mid (P := Tryz.prog) hw 59 y ho b o hx (ndC x s).toList _ hS Tryz.underlying59 rfl (ndC_infoL x s)
  rwa [Array.toArray_toList] at h
theorem nstep_alloc {ops : Array Oper} {oo : Oper} {a : Act} {K : Act → World → Prop} {Q : Exit → Act → World → Prop} {E : Prop} {V : World} (hg : oo.guard = none) (hop : oo.op = .alloc 59)
    (hK : ∀ Z : Array Value, Z.size = 31 → K (a.put oo.dst (.pointer (some ⟨V.heap.size, 0, none⟩))) (V.alloc (.cells Z 59))) : if Region.wanted oo (yielded ops a.tmps) = true then Oper.wp Tryz.prog oo a V K Q else E := by
  have hw : Region.wanted oo (yielded ops a.tmps) = true := by simp [Region.wanted, hg]
  rw [if_pos hw]
  obtain ⟨d, op, t, ps, af, gd⟩ := oo
  cases hg
  cases hop
  go_simp
  exact hK _ rfl
theorem nstep_store {ops : Array Oper} {oo : Oper} {a : Act} {K : Act → World → Prop} {Q : Exit → Act → World → Prop} {E : Prop} {V : World} {z : Nat} {Z : Array Value} {x : Nd} {s : Na} (hg : oo.guard = none) (y y' : Operand) (hop : oo.op = .store 59 y y')
    (hx : a.eval y = .pointer (some ⟨z, 0, none⟩)) (hy : a.eval y' = .agg (ndC x s)) (hZ : V.heap[z]? = some (.cells Z 59 (0, 0))) (hs : Z.size = 31)
    (hK : K (a.put oo.dst undef) (V.setRow z (ndC x s))) : if Region.wanted oo (yielded ops a.tmps) = true then Oper.wp Tryz.prog oo a V K Q else E := by
  have hw : Region.wanted oo (yielded ops a.tmps) = true := by simp [Region.wanted, hg]
  rw [if_pos hw]
  exact wp_store_row 59 y y' hop z (ndC x s) hx hy 59 Z hZ (ndC_info x s) (hs.trans (ndC_size x s).symm) (ndC_one x s) hK
theorem nheads {w : World} {b : Nat} {x : Nd} {s : Na} {t : TypeId} (h : w.heap[b]? = some (.cells (ndC x s) t (0, 0))) : w.cell? ⟨b, 0, none⟩ = some (.int .i64 x.id) ∧ w.cell? ⟨b, 1, none⟩ = some (.int .i64 x.par) :=
  ⟨by rw [cell_of_row w b 0 _ t (0, 0) h]; rfl, by rw [cell_of_row w b 1 _ t (0, 0) h]; rfl⟩
theorem implCompose_m (x y : M6) (w : World) :
    Calls Tryz.prog 95 #[.agg (mC x), .agg (mC y)] w fun r w' => r = .returned (.tuple #[.agg (mC (comp6 x y)), .bool (comp6k x y)]) ∧ Below w.heap.size w w' := implCompose_any _ _ _ _ _ _ _ _ _ _ _ _ w
theorem specCompose_m (x y : M6) (w : World) :
    Calls Tryz.prog 44 #[.agg (mC x), .agg (mC y)] w fun r w' => r = .returned (.tuple #[.agg (mC (comp6 x y)), .bool (comp6k x y)]) ∧ Below w.heap.size w w' := specCompose_any _ _ _ _ _ _ _ _ _ _ _ _ w
end Go.Proofs.YtdbphpekhmlmdabGreat

/-
  The lines of a path that is moved: what both sides reckon; the program's linesBy.
-/
namespace Go.Proofs.YtdbphpekhmlmdabGreat
open Go.RowKit
set_option linter.unusedVariables false

theorem clip_empty {w u : World} (hb : Below w.heap.size w u) : LinesV (u.alloc (.cells #[] 48)) w.heap.size (.slice (some ⟨u.heap.size, 0, none⟩) 0 0) [] :=
  ⟨[], World.ownsRow_lit (base := w.heap.size) (e := 48) (size := 1) u #[] 0 hb.size (by decide) rfl, Lines.nil _ _⟩
def mv6 (M : M6) (p : Int × Int) : Int × Int := mvP M.a M.b M.c M.d M.e M.f p
noncomputable def movN (M : M6) (vf : Nat → Int) (n : Nat) (pf : Nat → Int × Int) (k : Nat) (z : Nat) : Nat := okN (rightB vf n pf k && M.okB) z
noncomputable def linesM (M : M6) (vf : Nat → Int) (n : Nat) (pf : Nat → Int × Int) (k : Nat) : List (List Pt) :=
  flatL (rightB vf (movN M vf n pf k n) (fun i => mv6 M (pf i)) (movN M vf n pf k k)) vf (fun i => mv6 M (pf i)) (movN M vf n pf k n)
theorem okN_le (x : Bool) (n : Nat) : okN x n ≤ n := by unfold okN; cases x <;> simp
theorem movN_le (M : M6) (vf : Nat → Int) (n : Nat) (pf : Nat → Int × Int) (k z : Nat) : movN M vf n pf k z ≤ z := okN_le _ _
theorem linesM_small (M : M6) (vf : Nat → Int) (n : Nat) (pf : Nat → Int × Int) (k : Nat) : (linesM M vf n pf k).length ≤ 100 ∧ ∀ l ∈ linesM M vf n pf k, l.length ≤ 1000 := flatL_small rightB_iff
theorem caps_none {a : Option Addr} {n c : Nat} (h : n ≤ c ∧ (a = none → c = 0)) : a = none → n = 0 ∧ c = 0 := fun e => ⟨by have := h.2 e; omega, h.2 e⟩
theorem implMovePath_m (M : M6) (vf : Nat → Int) (pf : Nat → Int × Int) (a b : Option Addr) (n c m d : Nat) (ha : a = none → n = 0 ∧ c = 0) (hn : n ≤ 1048576) (hm : m ≤ 1048576) (w : World) (V : ∀ i, i < n → IntAt w a i (vf i)) (P : ∀ i, i < m → PtArg w b i (pf i)) :
    Calls Tryz.prog 58 #[.agg (mC M), .agg #[.slice a n c, .slice b m d]] w fun r w' => PathRes w r w' (movN M vf n pf m n) (movN M vf n pf m m) vf (fun i => mv6 M (pf i)) := implMovePath_gen M.a M.b M.c M.d M.e M.f vf pf a b n c m d ha hn hm w _ rightB_iff V P
theorem specMovePath_m (M : M6) (vf : Nat → Int) (pf : Nat → Int × Int) (a b : Option Addr) (n c m d : Nat) (ha : a = none → n = 0 ∧ c = 0) (hn : n ≤ 1048576) (hm : m ≤ 1048576) (w : World) (V : ∀ i, i < n → IntAt w a i (vf i)) (P : ∀ i, i < m → PtArg w b i (pf i)) :
    Calls Tryz.prog 20 #[.agg (mC M), .agg #[.slice a n c, .slice b m d]] w fun r w' => PathRes w r w' (movN M vf n pf m n) (movN M vf n pf m m) vf (fun i => mv6 M (pf i)) := specMovePath_gen M.a M.b M.c M.d M.e M.f vf pf a b n c m d ha hn hm w _ rightB_iff V P

set_option maxHeartbeats 4000000 in
set_option maxRecDepth 100000 in
theorem implLinesBy_any (M : M6) (vf : Nat → Int) (pf : Nat → Int × Int) (a b : Option Addr) (n c m d : Nat) (ha : a = none → n = 0 ∧ c = 0) (hn : n ≤ 1048576) (hm : m ≤ 1048576) (w : World) (V : ∀ i, i < n → IntAt w a i (vf i)) (P : ∀ i, i < m → PtArg w b i (pf i)) :
    Calls Tryz.prog 25 #[.agg #[.slice a n c, .slice b m d], .agg (mC M)] w fun r w' => ∃ v, r = .returned v ∧ LinesV w' w.heap.size v (linesM M vf n pf m) ∧ Below w.heap.size w w' := by
  have E1 := hide (fun u (hu : Below w.heap.size w u) => implMovePath_m M vf pf a b n c m d ha hn hm u (fun i hi => (V i hi).next hu) (fun i hi => (P i hi).next hu))
  have E2 := hide (fun (u : World) (a' b' : Option Addr) (c' d' base : Nat) (hv : PathV u base (.slice a' (movN M vf n pf m n) c') (.slice b' (movN M vf n pf m m) d') (movN M vf n pf m n) (movN M vf n pf m m) vf (fun i => mv6 M (pf i))) => show Calls Tryz.prog 57 #[.agg #[.slice a' (movN M vf n pf m n) c', .slice b' (movN M vf n pf m m) d']] u (fun r w' => ∃ v, r = .returned v ∧ LinesV w' u.heap.size v (linesM M vf n pf m) ∧ Below u.heap.size u w') from
    implFlatOf_any vf (fun i => mv6 M (pf i)) a' b' _ c' _ d' (Nat.le_trans (movN_le ..) hn) (Nat.le_trans (movN_le ..) hm) hv.capQ u _ rightB_iff hv.ints hv.pts)
  generalize linesM M vf n pf m = L at E2 ⊢
  generalize movN M vf n pf m n = n' at E1 E2
  generalize movN M vf n pf m m = m' at E1 E2
  clear V P ha hn hm
  go_enter Tryz.func25, Tryz.ntmps25
  go_upto_region 1 with fail
  have R2 := hide (al2_0 w (.cells #[.slice a n c, .slice b m d] 50) (.cells (mC M) 43))
  have R3 := hide (al2_1 w (.cells #[.slice a n c, .slice b m d] 50) (.cells (mC M) 43))
  have HB := hide (al2_below w (.cells #[.slice a n c, .slice b m d] 50) (.cells (mC M) 43))
  generalize (w.alloc (.cells #[.slice a n c, .slice b m d] 50)).alloc (.cells (mC M) 43) = W at R2 R3 HB ⊢
  obtain ⟨b2, hb2⟩ : ∃ b, Hid (b = w.heap.size) := ⟨_, rfl⟩
  rw [← unhide hb2] at R2 R3 ⊢
  clear hb2
  have h3 := hide (mat_rng (unhide R3))
  obtain ⟨c0, c1⟩ := row2 (unhide R2)
  go_wp2_with (with_reducible refine load_mat rfl _ rfl (b2 + 1) 0 rfl M (unhide h3) ?_)
  go_fit (unhide E1 _ (unhide HB))
  rintro r w1 hp
  obtain ⟨a', c', b', d', rfl, hv, hb⟩ := hp.open
  replace HB := hide (below_two (unhide HB) hb)
  clear hp c0 c1 h3 E1 hb
  go_wp2_with fail
  go_fit (unhide E2 _ _ _ _ _ _ hv)
  rintro r w2 ⟨v, rfl, hL, hb⟩
  clear hv E2
  have hL2 := hide (hL.low (unhide HB).size)
  replace HB := hide (below_two (unhide HB) hb)
  clear hL hb
  go_wp2_with fail
  go_ret
  exact ⟨v, rfl, unhide hL2, unhide HB⟩
end Go.Proofs.YtdbphpekhmlmdabGreat

/-
  The specification's points on curves.
-/
namespace Go.Proofs.YtdbphpekhmlmdabGreat
open Go.RowKit

set_option maxHeartbeats 8000000 in
set_option maxRecDepth 100000 in
theorem specQuadAt_any (x0 y0 x1 y1 x2 y2 i : Int) (w : World) :
    Calls Tryz.prog 46 #[.agg #[.int .i64 x0, .int .i64 y0], .agg #[.int .i64 x1, .int .i64 y1], .agg #[.int .i64 x2, .int .i64 y2], .int .i64 i] w fun r w' => r = .returned (.agg #[.int .i64 ((quadP (x0, y0) (x1, y1) (x2, y2) i).1), .int .i64 ((quadP (x0, y0) (x1, y1) (x2, y2) i).2)]) ∧ Below w.heap.size w w' := by
  have E0 := hide (specPointOk_any x0 y0)
  have E1 := hide (specPointOk_any x1 y1)
  have E2 := hide (specPointOk_any x2 y2)
  have EC := hide (specClamp_any i 0 4)
  have hq : (quadP (x0, y0) (x1, y1) (x2, y2) i) = if quadOk (x0, y0) (x1, y1) (x2, y2) = true then (quadI x0 x1 x2 (clampI i 0 4), quadI y0 y1 y2 (clampI i 0 4)) else (0, 0) := rfl
  rw [hq]
  clear hq
  by_cases h : quadOk (x0, y0) (x1, y1) (x2, y2) = true
  · rw [if_pos h]
    dsimp only
    have hh := h
    simp only [quadOk, Bool.and_eq_true] at hh
    obtain ⟨g0, g1, g2⟩ := hh
    obtain ⟨⟨a0, b0⟩, ⟨c0, d0⟩⟩ := point_bd g0
    obtain ⟨⟨a1, b1⟩, ⟨c1, d1⟩⟩ := point_bd g1
    obtain ⟨⟨a2, b2⟩, ⟨c2, d2⟩⟩ := point_bd g2
    have hi := clamp_in (x := i) (h := 4) (by decide)
    generalize clampI i 0 4 = ii at EC hi ⊢
    obtain ⟨k0, k1, k2, k3, m0, m1, m2, hsum⟩ : (0 ≤ (4 - ii) * (4 - ii) ∧ (4 - ii) * (4 - ii) ≤ 1536) ∧ (0 ≤ 2 * ii ∧ 2 * ii ≤ 1536) ∧ (0 ≤ 2 * ii * (4 - ii) ∧ 2 * ii * (4 - ii) ≤ 1536) ∧ (0 ≤ ii * ii ∧ ii * ii ≤ 1536) ∧ ((4 - ii) * (4 - ii) ≤ 512) ∧ (2 * ii * (4 - ii) ≤ 512) ∧ (ii * ii ≤ 512) ∧ (4 - ii) * (4 - ii) + 2 * ii * (4 - ii) + ii * ii = 16 := by
        rcases four_cases hi with rfl | rfl | rfl | rfl | rfl <;> decide
    have u00 : IntKind.i64.wrap (4 - ii) = (4 - ii) := IntWalk.i64_in _ (by omega)
    have u0 : IntKind.i64.wrap ((4 - ii) * (4 - ii)) = (4 - ii) * (4 - ii) := IntWalk.i64_in _ (by omega)
    have u1 : IntKind.i64.wrap (2 * ii) = 2 * ii := IntWalk.i64_in _ (by omega)
    have u2 : IntKind.i64.wrap (2 * ii * (4 - ii)) = 2 * ii * (4 - ii) := IntWalk.i64_in _ (by omega)
    have u3 : IntKind.i64.wrap (ii * ii) = ii * ii := IntWalk.i64_in _ (by omega)
    have px0 := mul_bd (A := 512) (X := 8388608) (a := (4 - ii) * (4 - ii)) (x := x0) (by omega) (by omega) a0 b0
    have px1 := mul_bd (A := 512) (X := 8388608) (a := 2 * ii * (4 - ii)) (x := x1) (by omega) (by omega) a1 b1
    have px2 := mul_bd (A := 512) (X := 8388608) (a := ii * ii) (x := x2) (by omega) (by omega) a2 b2
    have vx0 : IntKind.i64.wrap ((4 - ii) * (4 - ii) * x0) = (4 - ii) * (4 - ii) * x0 := IntWalk.i64_in _ (by omega)
    have vx1 : IntKind.i64.wrap (2 * ii * (4 - ii) * x1) = 2 * ii * (4 - ii) * x1 := IntWalk.i64_in _ (by omega)
    have vx2 : IntKind.i64.wrap (ii * ii * x2) = ii * ii * x2 := IntWalk.i64_in _ (by omega)
    have sx1 : IntKind.i64.wrap ((4 - ii) * (4 - ii) * x0 + 2 * ii * (4 - ii) * x1) = (4 - ii) * (4 - ii) * x0 + 2 * ii * (4 - ii) * x1 := IntWalk.i64_in _ (by omega)
    have sx2 : IntKind.i64.wrap ((4 - ii) * (4 - ii) * x0 + 2 * ii * (4 - ii) * x1 + ii * ii * x2) = (4 - ii) * (4 - ii) * x0 + 2 * ii * (4 - ii) * x1 + ii * ii * x2 := IntWalk.i64_in _ (by omega)
    have Dx := hide (specRoundDiv_any ((4 - ii) * (4 - ii) * x0 + 2 * ii * (4 - ii) * x1 + ii * ii * x2) 16 (by omega) (by omega) (by omega))
    rw [show rdivI ((4 - ii) * (4 - ii) * x0 + 2 * ii * (4 - ii) * x1 + ii * ii * x2) 16 = quadI x0 x1 x2 ii from rfl] at Dx
    generalize quadI x0 x1 x2 ii = X at Dx ⊢
    have py0 := mul_bd (A := 512) (X := 8388608) (a := (4 - ii) * (4 - ii)) (x := y0) (by omega) (by omega) c0 d0
    have py1 := mul_bd (A := 512) (X := 8388608) (a := 2 * ii * (4 - ii)) (x := y1) (by omega) (by omega) c1 d1
    have py2 := mul_bd (A := 512) (X := 8388608) (a := ii * ii) (x := y2) (by omega) (by omega) c2 d2
    have vy0 : IntKind.i64.wrap ((4 - ii) * (4 - ii) * y0) = (4 - ii) * (4 - ii) * y0 := IntWalk.i64_in _ (by omega)
    have vy1 : IntKind.i64.wrap (2 * ii * (4 - ii) * y1) = 2 * ii * (4 - ii) * y1 := IntWalk.i64_in _ (by omega)
    have vy2 : IntKind.i64.wrap (ii * ii * y2) = ii * ii * y2 := IntWalk.i64_in _ (by omega)
    have sy1 : IntKind.i64.wrap ((4 - ii) * (4 - ii) * y0 + 2 * ii * (4 - ii) * y1) = (4 - ii) * (4 - ii) * y0 + 2 * ii * (4 - ii) * y1 := IntWalk.i64_in _ (by omega)
    have sy2 : IntKind.i64.wrap ((4 - ii) * (4 - ii) * y0 + 2 * ii * (4 - ii) * y1 + ii * ii * y2) = (4 - ii) * (4 - ii) * y0 + 2 * ii * (4 - ii) * y1 + ii * ii * y2 := IntWalk.i64_in _ (by omega)
    have Dy := hide (specRoundDiv_any ((4 - ii) * (4 - ii) * y0 + 2 * ii * (4 - ii) * y1 + ii * ii * y2) 16 (by omega) (by omega) (by omega))
    rw [show rdivI ((4 - ii) * (4 - ii) * y0 + 2 * ii * (4 - ii) * y1 + ii * ii * y2) 16 = quadI y0 y1 y2 ii from rfl] at Dy
    generalize quadI y0 y1 y2 ii = Y at Dy ⊢
    rw [show pointOkB x0 y0 = true from g0] at E0
    rw [show pointOkB x1 y1 = true from g1] at E1
    rw [show pointOkB x2 y2 = true from g2] at E2
    clear h a0 b0 c0 d0 g0 m0 a1 b1 c1 d1 g1 m1 a2 b2 c2 d2 g2 m2 hsum k0 k1 k2 k3 px0 py0 px1 py1 px2 py2
    go_enter Tryz.func46, Tryz.ntmps46
    go_wp2_with fail
    obtain ⟨W, hW⟩ : ∃ W, W = (((w.alloc (.cells #[.int .i64 x0, .int .i64 y0] 55)).alloc (.cells #[.int .i64 x1, .int .i64 y1] 55)).alloc (.cells #[.int .i64 x2, .int .i64 y2] 55)).alloc (.cells #[.int .i64 0, .int .i64 0] 55) := ⟨_, rfl⟩
    have A0 := hide (show W.heap[w.heap.size]? = some (.cells #[.int .i64 x0, .int .i64 y0] 55 (0, 0)) by rw [hW]; exact al4_0 _ _ _ _ _ )
    have A1 := hide (show W.heap[w.heap.size + 1]? = some (.cells #[.int .i64 x1, .int .i64 y1] 55 (0, 0)) by rw [hW]; exact al4_1 _ _ _ _ _ )
    have A2 := hide (show W.heap[w.heap.size + 1 + 1]? = some (.cells #[.int .i64 x2, .int .i64 y2] 55 (0, 0)) by rw [hW]; exact al4_2 _ _ _ _ _ )
    have R := hide (show W.heap[w.heap.size + 1 + 1 + 1]? = some (.cells #[.int .i64 0, .int .i64 0] 55 (0, 0)) by rw [hW]; exact al4_3 _ _ _ _ _ )
    have HB := hide (show Below w.heap.size w W by rw [hW]; exact al4_below _ _ _ _ _ )
    rw [← hW]
    clear hW
    go_fit (unhide E0 _)
    rintro r w0 ⟨rfl, hb⟩
    replace A0 := hide (row_next hb (unhide A0))
    replace A1 := hide (row_next hb (unhide A1))
    replace A2 := hide (row_next hb (unhide A2))
    replace R := hide (row_next hb (unhide R))
    replace HB := hide (below_two (unhide HB) hb)
    clear hb
    obtain ⟨q1, p1⟩ := row2 (unhide A1)
    go_wp2_with fail
    clear q1 p1
    go_fit (unhide E1 _)
    rintro r w1 ⟨rfl, hb⟩
    replace A0 := hide (row_next hb (unhide A0))
    replace A1 := hide (row_next hb (unhide A1))
    replace A2 := hide (row_next hb (unhide A2))
    replace R := hide (row_next hb (unhide R))
    replace HB := hide (below_two (unhide HB) hb)
    clear hb
    obtain ⟨q2, p2⟩ := row2 (unhide A2)
    go_wp2_with fail
    clear q2 p2
    go_fit (unhide E2 _)
    rintro r w2 ⟨rfl, hb⟩
    replace A0 := hide (row_next hb (unhide A0))
    replace A1 := hide (row_next hb (unhide A1))
    replace A2 := hide (row_next hb (unhide A2))
    replace R := hide (row_next hb (unhide R))
    replace HB := hide (below_two (unhide HB) hb)
    clear hb
    obtain ⟨q0, p0⟩ := row2 (unhide A0)
    obtain ⟨q1, p1⟩ := row2 (unhide A1)
    obtain ⟨q2, p2⟩ := row2 (unhide A2)
    go_wp2_with fail
    go_fit (unhide EC _)
    rintro r w9 ⟨rfl, rfl⟩
    obtain ⟨r0, r1⟩ := row2 (unhide R)
    obtain ⟨f0, f1⟩ := free2 (unhide R)
    have k0 : ∀ u, Below (w.heap.size + 1 + 1 + 1) w9 u → (u.cell? ⟨w.heap.size, 0, none⟩ = some (.int .i64 x0) ∧ u.cell? ⟨w.heap.size + 1, 0, none⟩ = some (.int .i64 x1) ∧ u.cell? ⟨w.heap.size + 1 + 1, 0, none⟩ = some (.int .i64 x2) ∧ u.cell? ⟨w.heap.size, 1, none⟩ = some (.int .i64 y0) ∧ u.cell? ⟨w.heap.size + 1, 1, none⟩ = some (.int .i64 y1) ∧ u.cell? ⟨w.heap.size + 1 + 1, 1, none⟩ = some (.int .i64 y2) ∧ Below (w.heap.size + 1 + 1 + 1) w9 u) := fun u h => ⟨(h.cell (by simp; try omega)).trans q0, (h.cell (by simp; try omega)).trans q1, (h.cell (by simp; try omega)).trans q2, (h.cell (by simp; try omega)).trans p0, (h.cell (by simp; try omega)).trans p1, (h.cell (by simp; try omega)).trans p2, h⟩
    have kS : ∀ u, (u.cell? ⟨w.heap.size, 0, none⟩ = some (.int .i64 x0) ∧ u.cell? ⟨w.heap.size + 1, 0, none⟩ = some (.int .i64 x1) ∧ u.cell? ⟨w.heap.size + 1 + 1, 0, none⟩ = some (.int .i64 x2) ∧ u.cell? ⟨w.heap.size, 1, none⟩ = some (.int .i64 y0) ∧ u.cell? ⟨w.heap.size + 1, 1, none⟩ = some (.int .i64 y1) ∧ u.cell? ⟨w.heap.size + 1 + 1, 1, none⟩ = some (.int .i64 y2) ∧ Below (w.heap.size + 1 + 1 + 1) w9 u) → Below (w.heap.size + 1 + 1 + 1) w9 u := fun u h => h.2.2.2.2.2.2
    go_wp2_with fail
    go_region_held3 (fun u => u.cell? ⟨w.heap.size, 0, none⟩ = some (.int .i64 x0) ∧ u.cell? ⟨w.heap.size + 1, 0, none⟩ = some (.int .i64 x1) ∧ u.cell? ⟨w.heap.size + 1 + 1, 0, none⟩ = some (.int .i64 x2) ∧ u.cell? ⟨w.heap.size, 1, none⟩ = some (.int .i64 y0) ∧ u.cell? ⟨w.heap.size + 1, 1, none⟩ = some (.int .i64 y1) ∧ u.cell? ⟨w.heap.size + 1 + 1, 1, none⟩ = some (.int .i64 y2) ∧ Below (w.heap.size + 1 + 1 + 1) w9 u) ((refine k0 _ ?_; first | with_reducible exact (Below.refl _ _).drew | with_reducible exact (below_put2 (Below.refl _ _) (Nat.le_refl _) _ _).drew | with_reducible exact (below_put2 (Below.refl _ _).drew (Nat.le_refl _) _ _))) (first | (go_at_call 84; (first | go_fit (unhide Dx _) | go_fit (unhide Dy _)); rintro r w4 ⟨rfl, rfl⟩))
    all_goals
      go_wp2_with fail
      refine bodyPost_ret (v := .agg #[.int .i64 X, .int .i64 Y]) (by simp [results, Tryz.results46, go_sem, r0, r1]) rfl ⟨rfl, ?_⟩
      exact (unhide HB).trans ((kS _ (by assumption)).mono (by omega))
  · rw [if_neg h]
    dsimp only
    simp only [quadOk, Bool.and_eq_true] at h
    generalize pointOkB x0 y0 = g0 at E0 h
    generalize pointOkB x1 y1 = g1 at E1 h
    generalize pointOkB x2 y2 = g2 at E2 h
    go_enter Tryz.func46, Tryz.ntmps46
    go_wp2_with fail
    obtain ⟨W, hW⟩ : ∃ W, W = (((w.alloc (.cells #[.int .i64 x0, .int .i64 y0] 55)).alloc (.cells #[.int .i64 x1, .int .i64 y1] 55)).alloc (.cells #[.int .i64 x2, .int .i64 y2] 55)).alloc (.cells #[.int .i64 0, .int .i64 0] 55) := ⟨_, rfl⟩
    have A0 := hide (show W.heap[w.heap.size]? = some (.cells #[.int .i64 x0, .int .i64 y0] 55 (0, 0)) by rw [hW]; exact al4_0 _ _ _ _ _ )
    have A1 := hide (show W.heap[w.heap.size + 1]? = some (.cells #[.int .i64 x1, .int .i64 y1] 55 (0, 0)) by rw [hW]; exact al4_1 _ _ _ _ _ )
    have A2 := hide (show W.heap[w.heap.size + 1 + 1]? = some (.cells #[.int .i64 x2, .int .i64 y2] 55 (0, 0)) by rw [hW]; exact al4_2 _ _ _ _ _ )
    have R := hide (show W.heap[w.heap.size + 1 + 1 + 1]? = some (.cells #[.int .i64 0, .int .i64 0] 55 (0, 0)) by rw [hW]; exact al4_3 _ _ _ _ _ )
    have HB := hide (show Below w.heap.size w W by rw [hW]; exact al4_below _ _ _ _ _ )
    rw [← hW]
    clear hW
    go_fit (unhide E0 _)
    rintro r w0 ⟨rfl, hb⟩
    replace A0 := hide (row_next hb (unhide A0))
    replace A1 := hide (row_next hb (unhide A1))
    replace A2 := hide (row_next hb (unhide A2))
    replace R := hide (row_next hb (unhide R))
    replace HB := hide (below_two (unhide HB) hb)
    clear hb
    obtain ⟨q1, p1⟩ := row2 (unhide A1)
    cases g0
    · clear q1 p1
      obtain ⟨r0, r1⟩ := row2 (unhide R)
      obtain ⟨f0, f1⟩ := free2 (unhide R)
      go_wp2_with fail
      refine bodyPost_ret (v := .agg #[.int .i64 0, .int .i64 0]) (by simp [results, Tryz.results46, go_sem, r0, r1]) rfl ⟨rfl, ?_⟩
      exact below_put2 (unhide HB) (by omega) _ _
    go_wp2_with fail
    clear q1 p1
    go_fit (unhide E1 _)
    rintro r w1 ⟨rfl, hb⟩
    replace A0 := hide (row_next hb (unhide A0))
    replace A1 := hide (row_next hb (unhide A1))
    replace A2 := hide (row_next hb (unhide A2))
    replace R := hide (row_next hb (unhide R))
    replace HB := hide (below_two (unhide HB) hb)
    clear hb
    obtain ⟨q2, p2⟩ := row2 (unhide A2)
    cases g1
    · clear q2 p2
      obtain ⟨r0, r1⟩ := row2 (unhide R)
      obtain ⟨f0, f1⟩ := free2 (unhide R)
      go_wp2_with fail
      refine bodyPost_ret (v := .agg #[.int .i64 0, .int .i64 0]) (by simp [results, Tryz.results46, go_sem, r0, r1]) rfl ⟨rfl, ?_⟩
      exact below_put2 (unhide HB) (by omega) _ _
    go_wp2_with fail
    clear q2 p2
    go_fit (unhide E2 _)
    rintro r w2 ⟨rfl, hb⟩
    replace A0 := hide (row_next hb (unhide A0))
    replace A1 := hide (row_next hb (unhide A1))
    replace A2 := hide (row_next hb (unhide A2))
    replace R := hide (row_next hb (unhide R))
    replace HB := hide (below_two (unhide HB) hb)
    clear hb
    obtain rfl : g2 = false := by simpa using h
    obtain ⟨r0, r1⟩ := row2 (unhide R)
    obtain ⟨f0, f1⟩ := free2 (unhide R)
    go_wp2_with fail
    refine bodyPost_ret (v := .agg #[.int .i64 0, .int .i64 0]) (by simp [results, Tryz.results46, go_sem, r0, r1]) rfl ⟨rfl, ?_⟩
    exact below_put2 (unhide HB) (by omega) _ _

set_option maxHeartbeats 8000000 in
set_option maxRecDepth 100000 in
theorem specCubicAt_any (x0 y0 x1 y1 x2 y2 x3 y3 i : Int) (w : World) :
    Calls Tryz.prog 47 #[.agg #[.int .i64 x0, .int .i64 y0], .agg #[.int .i64 x1, .int .i64 y1], .agg #[.int .i64 x2, .int .i64 y2], .agg #[.int .i64 x3, .int .i64 y3], .int .i64 i] w fun r w' => r = .returned (.agg #[.int .i64 ((cubicP (x0, y0) (x1, y1) (x2, y2) (x3, y3) i).1), .int .i64 ((cubicP (x0, y0) (x1, y1) (x2, y2) (x3, y3) i).2)]) ∧ Below w.heap.size w w' := by
  have E0 := hide (specPointOk_any x0 y0)
  have E1 := hide (specPointOk_any x1 y1)
  have E2 := hide (specPointOk_any x2 y2)
  have E3 := hide (specPointOk_any x3 y3)
  have EC := hide (specClamp_any i 0 8)
  have hq : (cubicP (x0, y0) (x1, y1) (x2, y2) (x3, y3) i) = if cubicOk (x0, y0) (x1, y1) (x2, y2) (x3, y3) = true then (cubicI x0 x1 x2 x3 (clampI i 0 8), cubicI y0 y1 y2 y3 (clampI i 0 8)) else (0, 0) := rfl
  rw [hq]
  clear hq
  by_cases h : cubicOk (x0, y0) (x1, y1) (x2, y2) (x3, y3) = true
  · rw [if_pos h]
    dsimp only
    have hh := h
    simp only [cubicOk, Bool.and_eq_true] at hh
    obtain ⟨g0, g1, g2, g3⟩ := hh
    obtain ⟨⟨a0, b0⟩, ⟨c0, d0⟩⟩ := point_bd g0
    obtain ⟨⟨a1, b1⟩, ⟨c1, d1⟩⟩ := point_bd g1
    obtain ⟨⟨a2, b2⟩, ⟨c2, d2⟩⟩ := point_bd g2
    obtain ⟨⟨a3, b3⟩, ⟨c3, d3⟩⟩ := point_bd g3
    have hi := clamp_in (x := i) (h := 8) (by decide)
    generalize clampI i 0 8 = ii at EC hi ⊢
    obtain ⟨k0, k1, k2, k3, k4, k5, k6, k7, k8, m0, m1, m2, m3, hsum⟩ : (0 ≤ (8 - ii) * (8 - ii) ∧ (8 - ii) * (8 - ii) ≤ 1536) ∧ (0 ≤ (8 - ii) * (8 - ii) * (8 - ii) ∧ (8 - ii) * (8 - ii) * (8 - ii) ≤ 1536) ∧ (0 ≤ 3 * ii ∧ 3 * ii ≤ 1536) ∧ (0 ≤ 3 * ii * (8 - ii) ∧ 3 * ii * (8 - ii) ≤ 1536) ∧ (0 ≤ 3 * ii * (8 - ii) * (8 - ii) ∧ 3 * ii * (8 - ii) * (8 - ii) ≤ 1536) ∧ (0 ≤ 3 * ii * ii ∧ 3 * ii * ii ≤ 1536) ∧ (0 ≤ 3 * ii * ii * (8 - ii) ∧ 3 * ii * ii * (8 - ii) ≤ 1536) ∧ (0 ≤ ii * ii ∧ ii * ii ≤ 1536) ∧ (0 ≤ ii * ii * ii ∧ ii * ii * ii ≤ 1536) ∧ ((8 - ii) * (8 - ii) * (8 - ii) ≤ 512) ∧ (3 * ii * (8 - ii) * (8 - ii) ≤ 512) ∧ (3 * ii * ii * (8 - ii) ≤ 512) ∧ (ii * ii * ii ≤ 512) ∧ (8 - ii) * (8 - ii) * (8 - ii) + 3 * ii * (8 - ii) * (8 - ii) + 3 * ii * ii * (8 - ii) + ii * ii * ii = 512 := by
        rcases eight_cases hi with rfl | rfl | rfl | rfl | rfl | rfl | rfl | rfl | rfl <;> decide
    have u00 : IntKind.i64.wrap (8 - ii) = (8 - ii) := IntWalk.i64_in _ (by omega)
    have u0 : IntKind.i64.wrap ((8 - ii) * (8 - ii)) = (8 - ii) * (8 - ii) := IntWalk.i64_in _ (by omega)
    have u1 : IntKind.i64.wrap ((8 - ii) * (8 - ii) * (8 - ii)) = (8 - ii) * (8 - ii) * (8 - ii) := IntWalk.i64_in _ (by omega)
    have u2 : IntKind.i64.wrap (3 * ii) = 3 * ii := IntWalk.i64_in _ (by omega)
    have u3 : IntKind.i64.wrap (3 * ii * (8 - ii)) = 3 * ii * (8 - ii) := IntWalk.i64_in _ (by omega)
    have u4 : IntKind.i64.wrap (3 * ii * (8 - ii) * (8 - ii)) = 3 * ii * (8 - ii) * (8 - ii) := IntWalk.i64_in _ (by omega)
    have u5 : IntKind.i64.wrap (3 * ii * ii) = 3 * ii * ii := IntWalk.i64_in _ (by omega)
    have u6 : IntKind.i64.wrap (3 * ii * ii * (8 - ii)) = 3 * ii * ii * (8 - ii) := IntWalk.i64_in _ (by omega)
    have u7 : IntKind.i64.wrap (ii * ii) = ii * ii := IntWalk.i64_in _ (by omega)
    have u8 : IntKind.i64.wrap (ii * ii * ii) = ii * ii * ii := IntWalk.i64_in _ (by omega)
    have px0 := mul_bd (A := 512) (X := 8388608) (a := (8 - ii) * (8 - ii) * (8 - ii)) (x := x0) (by omega) (by omega) a0 b0
    have px1 := mul_bd (A := 512) (X := 8388608) (a := 3 * ii * (8 - ii) * (8 - ii)) (x := x1) (by omega) (by omega) a1 b1
    have px2 := mul_bd (A := 512) (X := 8388608) (a := 3 * ii * ii * (8 - ii)) (x := x2) (by omega) (by omega) a2 b2
    have px3 := mul_bd (A := 512) (X := 8388608) (a := ii * ii * ii) (x := x3) (by omega) (by omega) a3 b3
    have vx0 : IntKind.i64.wrap ((8 - ii) * (8 - ii) * (8 - ii) * x0) = (8 - ii) * (8 - ii) * (8 - ii) * x0 := IntWalk.i64_in _ (by omega)
    have vx1 : IntKind.i64.wrap (3 * ii * (8 - ii) * (8 - ii) * x1) = 3 * ii * (8 - ii) * (8 - ii) * x1 := IntWalk.i64_in _ (by omega)
    have vx2 : IntKind.i64.wrap (3 * ii * ii * (8 - ii) * x2) = 3 * ii * ii * (8 - ii) * x2 := IntWalk.i64_in _ (by omega)
    have vx3 : IntKind.i64.wrap (ii * ii * ii * x3) = ii * ii * ii * x3 := IntWalk.i64_in _ (by omega)
    have sx1 : IntKind.i64.wrap ((8 - ii) * (8 - ii) * (8 - ii) * x0 + 3 * ii * (8 - ii) * (8 - ii) * x1) = (8 - ii) * (8 - ii) * (8 - ii) * x0 + 3 * ii * (8 - ii) * (8 - ii) * x1 := IntWalk.i64_in _ (by omega)
    have sx2 : IntKind.i64.wrap ((8 - ii) * (8 - ii) * (8 - ii) * x0 + 3 * ii * (8 - ii) * (8 - ii) * x1 + 3 * ii * ii * (8 - ii) * x2) = (8 - ii) * (8 - ii) * (8 - ii) * x0 + 3 * ii * (8 - ii) * (8 - ii) * x1 + 3 * ii * ii * (8 - ii) * x2 := IntWalk.i64_in _ (by omega)
    have sx3 : IntKind.i64.wrap ((8 - ii) * (8 - ii) * (8 - ii) * x0 + 3 * ii * (8 - ii) * (8 - ii) * x1 + 3 * ii * ii * (8 - ii) * x2 + ii * ii * ii * x3) = (8 - ii) * (8 - ii) * (8 - ii) * x0 + 3 * ii * (8 - ii) * (8 - ii) * x1 + 3 * ii * ii * (8 - ii) * x2 + ii * ii * ii * x3 := IntWalk.i64_in _ (by omega)
    have Dx := hide (specRoundDiv_any ((8 - ii) * (8 - ii) * (8 - ii) * x0 + 3 * ii * (8 - ii) * (8 - ii) * x1 + 3 * ii * ii * (8 - ii) * x2 + ii * ii * ii * x3) 512 (by omega) (by omega) (by omega))
    rw [show rdivI ((8 - ii) * (8 - ii) * (8 - ii) * x0 + 3 * ii * (8 - ii) * (8 - ii) * x1 + 3 * ii * ii * (8 - ii) * x2 + ii * ii * ii * x3) 512 = cubicI x0 x1 x2 x3 ii from rfl] at Dx
    generalize cubicI x0 x1 x2 x3 ii = X at Dx ⊢
    have py0 := mul_bd (A := 512) (X := 8388608) (a := (8 - ii) * (8 - ii) * (8 - ii)) (x := y0) (by omega) (by omega) c0 d0
    have py1 := mul_bd (A := 512) (X := 8388608) (a := 3 * ii * (8 - ii) * (8 - ii)) (x := y1) (by omega) (by omega) c1 d1
    have py2 := mul_bd (A := 512) (X := 8388608) (a := 3 * ii * ii * (8 - ii)) (x := y2) (by omega) (by omega) c2 d2
    have py3 := mul_bd (A := 512) (X := 8388608) (a := ii * ii * ii) (x := y3) (by omega) (by omega) c3 d3
    have vy0 : IntKind.i64.wrap ((8 - ii) * (8 - ii) * (8 - ii) * y0) = (8 - ii) * (8 - ii) * (8 - ii) * y0 := IntWalk.i64_in _ (by omega)
    have vy1 : IntKind.i64.wrap (3 * ii * (8 - ii) * (8 - ii) * y1) = 3 * ii * (8 - ii) * (8 - ii) * y1 := IntWalk.i64_in _ (by omega)
    have vy2 : IntKind.i64.wrap (3 * ii * ii * (8 - ii) * y2) = 3 * ii * ii * (8 - ii) * y2 := IntWalk.i64_in _ (by omega)
    have vy3 : IntKind.i64.wrap (ii * ii * ii * y3) = ii * ii * ii * y3 := IntWalk.i64_in _ (by omega)
    have sy1 : IntKind.i64.wrap ((8 - ii) * (8 - ii) * (8 - ii) * y0 + 3 * ii * (8 - ii) * (8 - ii) * y1) = (8 - ii) * (8 - ii) * (8 - ii) * y0 + 3 * ii * (8 - ii) * (8 - ii) * y1 := IntWalk.i64_in _ (by omega)
    have sy2 : IntKind.i64.wrap ((8 - ii) * (8 - ii) * (8 - ii) * y0 + 3 * ii * (8 - ii) * (8 - ii) * y1 + 3 * ii * ii * (8 - ii) * y2) = (8 - ii) * (8 - ii) * (8 - ii) * y0 + 3 * ii * (8 - ii) * (8 - ii) * y1 + 3 * ii * ii * (8 - ii) * y2 := IntWalk.i64_in _ (by omega)
    have sy3 : IntKind.i64.wrap ((8 - ii) * (8 - ii) * (8 - ii) * y0 + 3 * ii * (8 - ii) * (8 - ii) * y1 + 3 * ii * ii * (8 - ii) * y2 + ii * ii * ii * y3) = (8 - ii) * (8 - ii) * (8 - ii) * y0 + 3 * ii * (8 - ii) * (8 - ii) * y1 + 3 * ii * ii * (8 - ii) * y2 + ii * ii * ii * y3 := IntWalk.i64_in _ (by omega)
    have Dy := hide (specRoundDiv_any ((8 - ii) * (8 - ii) * (8 - ii) * y0 + 3 * ii * (8 - ii) * (8 - ii) * y1 + 3 * ii * ii * (8 - ii) * y2 + ii * ii * ii * y3) 512 (by omega) (by omega) (by omega))
    rw [show rdivI ((8 - ii) * (8 - ii) * (8 - ii) * y0 + 3 * ii * (8 - ii) * (8 - ii) * y1 + 3 * ii * ii * (8 - ii) * y2 + ii * ii * ii * y3) 512 = cubicI y0 y1 y2 y3 ii from rfl] at Dy
    generalize cubicI y0 y1 y2 y3 ii = Y at Dy ⊢
    rw [show pointOkB x0 y0 = true from g0] at E0
    rw [show pointOkB x1 y1 = true from g1] at E1
    rw [show pointOkB x2 y2 = true from g2] at E2
    rw [show pointOkB x3 y3 = true from g3] at E3
    clear h a0 b0 c0 d0 g0 m0 a1 b1 c1 d1 g1 m1 a2 b2 c2 d2 g2 m2 a3 b3 c3 d3 g3 m3 hsum k0 k1 k2 k3 k4 k5 k6 k7 k8 px0 py0 px1 py1 px2 py2 px3 py3
    go_enter Tryz.func47, Tryz.ntmps47
    go_wp2_with fail
    obtain ⟨W, hW⟩ : ∃ W, W = ((((w.alloc (.cells #[.int .i64 x0, .int .i64 y0] 55)).alloc (.cells #[.int .i64 x1, .int .i64 y1] 55)).alloc (.cells #[.int .i64 x2, .int .i64 y2] 55)).alloc (.cells #[.int .i64 x3, .int .i64 y3] 55)).alloc (.cells #[.int .i64 0, .int .i64 0] 55) := ⟨_, rfl⟩
    have A0 := hide (show W.heap[w.heap.size]? = some (.cells #[.int .i64 x0, .int .i64 y0] 55 (0, 0)) by rw [hW]; exact al5_0 _ _ _ _ _ _ )
    have A1 := hide (show W.heap[w.heap.size + 1]? = some (.cells #[.int .i64 x1, .int .i64 y1] 55 (0, 0)) by rw [hW]; exact al5_1 _ _ _ _ _ _ )
    have A2 := hide (show W.heap[w.heap.size + 1 + 1]? = some (.cells #[.int .i64 x2, .int .i64 y2] 55 (0, 0)) by rw [hW]; exact al5_2 _ _ _ _ _ _ )
    have A3 := hide (show W.heap[w.heap.size + 1 + 1 + 1]? = some (.cells #[.int .i64 x3, .int .i64 y3] 55 (0, 0)) by rw [hW]; exact al5_3 _ _ _ _ _ _ )
    have R := hide (show W.heap[w.heap.size + 1 + 1 + 1 + 1]? = some (.cells #[.int .i64 0, .int .i64 0] 55 (0, 0)) by rw [hW]; exact al5_4 _ _ _ _ _ _ )
    have HB := hide (show Below w.heap.size w W by rw [hW]; exact al5_below _ _ _ _ _ _ )
    rw [← hW]
    clear hW
    go_fit (unhide E0 _)
    rintro r w0 ⟨rfl, hb⟩
    replace A0 := hide (row_next hb (unhide A0))
    replace A1 := hide (row_next hb (unhide A1))
    replace A2 := hide (row_next hb (unhide A2))
    replace A3 := hide (row_next hb (unhide A3))
    replace R := hide (row_next hb (unhide R))
    replace HB := hide (below_two (unhide HB) hb)
    clear hb
    obtain ⟨q1, p1⟩ := row2 (unhide A1)
    go_wp2_with fail
    clear q1 p1
    go_fit (unhide E1 _)
    rintro r w1 ⟨rfl, hb⟩
    replace A0 := hide (row_next hb (unhide A0))
    replace A1 := hide (row_next hb (unhide A1))
    replace A2 := hide (row_next hb (unhide A2))
    replace A3 := hide (row_next hb (unhide A3))
    replace R := hide (row_next hb (unhide R))
    replace HB := hide (below_two (unhide HB) hb)
    clear hb
    obtain ⟨q2, p2⟩ := row2 (unhide A2)
    go_wp2_with fail
    clear q2 p2
    go_fit (unhide E2 _)
    rintro r w2 ⟨rfl, hb⟩
    replace A0 := hide (row_next hb (unhide A0))
    replace A1 := hide (row_next hb (unhide A1))
    replace A2 := hide (row_next hb (unhide A2))
    replace A3 := hide (row_next hb (unhide A3))
    replace R := hide (row_next hb (unhide R))
    replace HB := hide (below_two (unhide HB) hb)
    clear hb
    obtain ⟨q3, p3⟩ := row2 (unhide A3)
    go_wp2_with fail
    clear q3 p3
    go_fit (unhide E3 _)
    rintro r w3 ⟨rfl, hb⟩
    replace A0 := hide (row_next hb (unhide A0))
    replace A1 := hide (row_next hb (unhide A1))
    replace A2 := hide (row_next hb (unhide A2))
    replace A3 := hide (row_next hb (unhide A3))
    replace R := hide (row_next hb (unhide R))
    replace HB := hide (below_two (unhide HB) hb)
    clear hb
    obtain ⟨q0, p0⟩ := row2 (unhide A0)
    obtain ⟨q1, p1⟩ := row2 (unhide A1)
    obtain ⟨q2, p2⟩ := row2 (unhide A2)
    obtain ⟨q3, p3⟩ := row2 (unhide A3)
    go_wp2_with fail
    go_fit (unhide EC _)
    rintro r w9 ⟨rfl, rfl⟩
    obtain ⟨r0, r1⟩ := row2 (unhide R)
    obtain ⟨f0, f1⟩ := free2 (unhide R)
    go_wp2_with fail
    go_fit (unhide Dx _)
    rintro r w4 ⟨rfl, rfl⟩
    go_wp2_with fail
    go_fit (unhide Dy _)
    rintro r w4 ⟨rfl, rfl⟩
    go_wp2_with fail
    refine bodyPost_ret (v := .agg #[.int .i64 X, .int .i64 Y]) (by simp [results, Tryz.results47, go_sem, r0, r1]) rfl ⟨rfl, ?_⟩
    exact below_put2 (unhide HB) (by omega) _ _
  · rw [if_neg h]
    dsimp only
    simp only [cubicOk, Bool.and_eq_true] at h
    generalize pointOkB x0 y0 = g0 at E0 h
    generalize pointOkB x1 y1 = g1 at E1 h
    generalize pointOkB x2 y2 = g2 at E2 h
    generalize pointOkB x3 y3 = g3 at E3 h
    go_enter Tryz.func47, Tryz.ntmps47
    go_wp2_with fail
    obtain ⟨W, hW⟩ : ∃ W, W = ((((w.alloc (.cells #[.int .i64 x0, .int .i64 y0] 55)).alloc (.cells #[.int .i64 x1, .int .i64 y1] 55)).alloc (.cells #[.int .i64 x2, .int .i64 y2] 55)).alloc (.cells #[.int .i64 x3, .int .i64 y3] 55)).alloc (.cells #[.int .i64 0, .int .i64 0] 55) := ⟨_, rfl⟩
    have A0 := hide (show W.heap[w.heap.size]? = some (.cells #[.int .i64 x0, .int .i64 y0] 55 (0, 0)) by rw [hW]; exact al5_0 _ _ _ _ _ _ )
    have A1 := hide (show W.heap[w.heap.size + 1]? = some (.cells #[.int .i64 x1, .int .i64 y1] 55 (0, 0)) by rw [hW]; exact al5_1 _ _ _ _ _ _ )
    have A2 := hide (show W.heap[w.heap.size + 1 + 1]? = some (.cells #[.int .i64 x2, .int .i64 y2] 55 (0, 0)) by rw [hW]; exact al5_2 _ _ _ _ _ _ )
    have A3 := hide (show W.heap[w.heap.size + 1 + 1 + 1]? = some (.cells #[.int .i64 x3, .int .i64 y3] 55 (0, 0)) by rw [hW]; exact al5_3 _ _ _ _ _ _ )
    have R := hide (show W.heap[w.heap.size + 1 + 1 + 1 + 1]? = some (.cells #[.int .i64 0, .int .i64 0] 55 (0, 0)) by rw [hW]; exact al5_4 _ _ _ _ _ _ )
    have HB := hide (show Below w.heap.size w W by rw [hW]; exact al5_below _ _ _ _ _ _ )
    rw [← hW]
    clear hW
    go_fit (unhide E0 _)
    rintro r w0 ⟨rfl, hb⟩
    replace A0 := hide (row_next hb (unhide A0))
    replace A1 := hide (row_next hb (unhide A1))
    replace A2 := hide (row_next hb (unhide A2))
    replace A3 := hide (row_next hb (unhide A3))
    replace R := hide (row_next hb (unhide R))
    replace HB := hide (below_two (unhide HB) hb)
    clear hb
    obtain ⟨q1, p1⟩ := row2 (unhide A1)
    cases g0
    · clear q1 p1
      obtain ⟨r0, r1⟩ := row2 (unhide R)
      obtain ⟨f0, f1⟩ := free2 (unhide R)
      go_wp2_with fail
      refine bodyPost_ret (v := .agg #[.int .i64 0, .int .i64 0]) (by simp [results, Tryz.results47, go_sem, r0, r1]) rfl ⟨rfl, ?_⟩
      exact below_put2 (unhide HB) (by omega) _ _
    go_wp2_with fail
    clear q1 p1
    go_fit (unhide E1 _)
    rintro r w1 ⟨rfl, hb⟩
    replace A0 := hide (row_next hb (unhide A0))
    replace A1 := hide (row_next hb (unhide A1))
    replace A2 := hide (row_next hb (unhide A2))
    replace A3 := hide (row_next hb (unhide A3))
    replace R := hide (row_next hb (unhide R))
    replace HB := hide (below_two (unhide HB) hb)
    clear hb
    obtain ⟨q2, p2⟩ := row2 (unhide A2)
    cases g1
    · clear q2 p2
      obtain ⟨r0, r1⟩ := row2 (unhide R)
      obtain ⟨f0, f1⟩ := free2 (unhide R)
      go_wp2_with fail
      refine bodyPost_ret (v := .agg #[.int .i64 0, .int .i64 0]) (by simp [results, Tryz.results47, go_sem, r0, r1]) rfl ⟨rfl, ?_⟩
      exact below_put2 (unhide HB) (by omega) _ _
    go_wp2_with fail
    clear q2 p2
    go_fit (unhide E2 _)
    rintro r w2 ⟨rfl, hb⟩
    replace A0 := hide (row_next hb (unhide A0))
    replace A1 := hide (row_next hb (unhide A1))
    replace A2 := hide (row_next hb (unhide A2))
    replace A3 := hide (row_next hb (unhide A3))
    replace R := hide (row_next hb (unhide R))
    replace HB := hide (below_two (unhide HB) hb)
    clear hb
    obtain ⟨q3, p3⟩ := row2 (unhide A3)
    cases g2
    · clear q3 p3
      obtain ⟨r0, r1⟩ := row2 (unhide R)
      obtain ⟨f0, f1⟩ := free2 (unhide R)
      go_wp2_with fail
      refine bodyPost_ret (v := .agg #[.int .i64 0, .int .i64 0]) (by simp [results, Tryz.results47, go_sem, r0, r1]) rfl ⟨rfl, ?_⟩
      exact below_put2 (unhide HB) (by omega) _ _
    go_wp2_with fail
    clear q3 p3
    go_fit (unhide E3 _)
    rintro r w3 ⟨rfl, hb⟩
    replace A0 := hide (row_next hb (unhide A0))
    replace A1 := hide (row_next hb (unhide A1))
    replace A2 := hide (row_next hb (unhide A2))
    replace A3 := hide (row_next hb (unhide A3))
    replace R := hide (row_next hb (unhide R))
    replace HB := hide (below_two (unhide HB) hb)
    clear hb
    obtain rfl : g3 = false := by simpa using h
    obtain ⟨r0, r1⟩ := row2 (unhide R)
    obtain ⟨f0, f1⟩ := free2 (unhide R)
    go_wp2_with fail
    refine bodyPost_ret (v := .agg #[.int .i64 0, .int .i64 0]) (by simp [results, Tryz.results47, go_sem, r0, r1]) rfl ⟨rfl, ?_⟩
    exact below_put2 (unhide HB) (by omega) _ _

end Go.Proofs.YtdbphpekhmlmdabGreat
