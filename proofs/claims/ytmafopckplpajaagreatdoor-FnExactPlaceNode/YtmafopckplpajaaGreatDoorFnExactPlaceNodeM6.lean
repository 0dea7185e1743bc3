/-
  SceneK · SceneU · MarkS: texts of one claim, in one.
-/
import Derived.Test.YtmafopckplpajaaGreatDoorFnExactPlaceNodeM2
import Derived.Test.YtmafopckplpajaaGreatDoorFnExactPlaceNodeM1
import Derived.BigQuiet
import Derived.Test.YtmafopckplpajaaGreatDoorFnExactPlaceNodeM5

/-
  The specification's KidsOf.
-/
namespace Go.Proofs.YtmafopckplpajaaGreatDoor
open Go.RowKit
set_option linter.unusedVariables false

theorem infoInt15 : (Tryz.prog.info? 3).map (fun i => (i.zero, i.size, i.bytes)) = some (some (.int .i64 0), 1, 8) := by kernel_rfl
def Zv (z : Int) : Value := .int .i64 z
/-- A call hands back numbers that are its own. -/
def IdsRes (w : World) (r : Ending) (w' : World) (L : List Int) : Prop :=
  ∃ p cap, r = .returned (.slice p L.length cap) ∧ w'.ownsRow w.heap.size 3 1 (.slice p L.length cap) L.length (L.map Zv) ∧ Below w.heap.size w w'
theorem own_ids {w : World} {base : Nat} {v : Value} {L : List Int} (h : w.ownsRow base 3 1 v L.length (L.map Zv)) : w.ownsRow base 3 1 v (L.map Zv).length (L.map Zv) := by
  rw [List.length_map]; exact h
theorem ids_snoc {w : World} {base : Nat} {v : Value} {L : List Int} {z : Int} (h : w.ownsRow base 3 1 v (L.map Zv ++ #[Value.int .i64 z].toList).length (L.map Zv ++ #[Value.int .i64 z].toList)) : w.ownsRow base 3 1 v (L ++ [z]).length ((L ++ [z]).map Zv) := by
  have e : (L ++ [z]).map Zv = L.map Zv ++ #[Value.int .i64 z].toList := by simp [Zv]
  rw [e]
  have e2 : (L ++ [z]).length = (L.map Zv ++ #[Value.int .i64 z].toList).length := by simp
  rw [e2]
  exact h
/-- The Ids of the first k nodes that are picked. -/
def pickIds (X : Nat → Nd) (q : Nat → Bool) : Nat → List Int
  | 0 => []
  | k + 1 => if q k = true then pickIds X q k ++ [(X k).id] else pickIds X q k
theorem pick_le (X : Nat → Nd) (q : Nat → Bool) : ∀ k, (pickIds X q k).length ≤ k
  | 0 => Nat.le_refl _
  | k + 1 => by
    have := pick_le X q k
    unfold pickIds
    split
    · rw [List.length_append]; simp; omega
    · omega
def kidsL (X : Nat → Nd) (n : Nat) (id : Int) : List Int := pickIds X (fun k => decide ((X k).par = id)) n

set_option maxHeartbeats 4000000 in
set_option maxRecDepth 100000 in
theorem specKidsOf_any (X : Nat → Nd) (A : Nat → Na) (ao : Option Addr) (n cp : Nat) (hn : n ≤ 1048576) (id : Int) (w : World) (P : ∀ i, i < n → NrAt w ao i (X i) (A i)) :
    Calls Tryz.prog 73 #[.agg #[.slice ao n cp], .int .i64 id] w fun r w' => IdsRes w r w' (kidsL X n id) := by
  obtain ⟨i0, hi, hz0, hz1, hz2⟩ := info_parts infoInt15
  obtain ⟨q, hq⟩ : ∃ q : Nat → Bool, Hid (q = fun k => decide ((X k).par = id)) := ⟨_, rfl⟩
  have hqk : Hid (∀ k, q k = decide ((X k).par = id)) := fun k => by rw [unhide hq]
  unfold kidsL IdsRes
  rw [← unhide hq]
  clear hq
  replace P := hide P
  go_enter Tryz.func73, Tryz.ntmps73
  go_upto_region 1 with fail
  have R := hide (new_row w (.cells #[.slice ao n cp] 26))
  have HB := hide (al1_below w (.cells #[.slice ao n cp] 26))
  obtain ⟨b1, hb1⟩ : ∃ z, Hid (z = w.heap.size) := ⟨_, rfl⟩
  rw [← unhide hb1] at R ⊢
  clear hb1
  generalize w.alloc (.cells #[.slice ao n cp] 26) = W at R HB ⊢
  go_upto_region 3 with fail
  go_loopw [5, 6] (fun v i u => ∃ (k : Nat) (p : Option Addr) (cap : Nat), k ≤ n ∧ i = .int .i64 (k : Int) ∧ v = .slice p (pickIds X q k).length cap ∧ Hid (u.ownsRow W.heap.size 3 1 (.slice p (pickIds X q k).length cap) (pickIds X q k).length ((pickIds X q k).map Zv)) ∧ Hid (Below W.heap.size W u)) (fun _ i _ => n - (intOf i).toNat)
  case atStart => exact ⟨0, some ⟨W.heap.size, 0, none⟩, 0, Nat.zero_le _, rfl, rfl, World.ownsRow_lit W #[] 0 (Nat.le_refl _) (by decide) rfl, al1_below _ _⟩
  case round =>
    obtain ⟨k, p, cap, hk, rfl, rfl, O, D⟩ := hrel
    have R1 := hide (row_next (unhide D) (unhide R))
    have c0 := row1 (unhide R1)
    have hlen := pick_le X q k
    by_cases hkn : k < n
    · have hki : (k : Int) < (n : Int) := by omega
      obtain ⟨b, o, hao, g0, g1, g2⟩ := ((unhide P k hkn).next (below_two (unhide HB) (unhide D))).heads
      subst hao
      by_cases hx : (X k).par = id
      · have hqq : ((X k).par == id) = true := beq_iff_eq.2 hx
        have hqt := hide (show pickIds X q (k + 1) = pickIds X q k ++ [(X k).id] by rw [pickIds, if_pos (by rw [unhide hqk]; exact decide_eq_true hx)])
        generalize pickIds X q k = L at O hlen hqt ⊢
        go_wp2_with (at_builtin; go_must (refine wpList_append_vals wr rfl _ _ 30 3 rfl W.heap.size i0 (.int .i64 0) 8 Tryz.underlying30 hi hz0 hz1 hz2 rfl _ (L.map Zv) (by rfl) (own_ids (unhide O)) _ (by intro u hu; simp at hu; subst hu; rfl) 1 1 rfl (by rfl) (by unfold maxLen; simp; omega) (by simp; omega) W W.heap.size (Nat.le_refl _) (unhide D).size (unhide D) ?_); intro v' w1 hown' hnx'; replace hown' := ids_snoc hown'; obtain ⟨p', cap', rfl⟩ := own_form hown'; replace hown' := hide hown'; replace hnx' := hide hnx'; refine Hid.out ?_)
        unfold Hid
        go_wp2_with fail
        go_roundw
        case rel => exact ⟨k + 1, p', cap', by omega, by go_num, by rw [unhide hqt, List.length_append]; rfl, by rw [unhide hqt]; exact unhide hown', hnx'⟩
        case measure => simp [intOf]; omega
      · have hqq : ((X k).par == id) = false := beq_eq_false_iff_ne.2 hx
        have hqt := hide (show pickIds X q (k + 1) = pickIds X q k by rw [pickIds, if_neg (by rw [unhide hqk, decide_eq_false hx]; exact Bool.false_ne_true)])
        go_wp2_with fail
        go_roundw
        case rel => exact ⟨k + 1, p, cap, by omega, by go_num, by rw [unhide hqt], by rw [unhide hqt]; exact unhide O, D⟩
        case measure => simp [intOf]; omega
    · have hke : k = n := by omega
      subst hke
      have hki : ¬ (k : Int) < (k : Int) := by omega
      go_wp2_with fail
      go_ret
      exact ⟨p, cap, rfl, own_low (unhide O) (unhide HB).size, below_two (unhide HB) (unhide D)⟩
end Go.Proofs.YtmafopckplpajaaGreatDoor

/-
  The specification's UnderOf.
-/
namespace Go.Proofs.YtmafopckplpajaaGreatDoor
open Go.RowKit
set_option linter.unusedVariables false

def underL (X : Nat → Nd) (n : Nat) (id : Int) : List Int := if firstN X id n < 0 then [] else pickIds X (fun k => underB X n (X k).id id) n

set_option maxHeartbeats 4000000 in
set_option maxRecDepth 100000 in
theorem specUnderOf_any (X : Nat → Nd) (A : Nat → Na) (ao : Option Addr) (n cp : Nat) (hn : n ≤ 1048576) (id : Int) (w : World) (P : ∀ i, i < n → NrAt w ao i (X i) (A i)) :
    Calls Tryz.prog 18 #[.agg #[.slice ao n cp], .int .i64 id] w fun r w' => IdsRes w r w' (underL X n id) := by
  obtain ⟨i0, hi, hz0, hz1, hz2⟩ := info_parts infoInt15
  obtain ⟨q, hq⟩ : ∃ q : Nat → Bool, Hid (q = fun k => underB X n (X k).id id) := ⟨_, rfl⟩
  have hqk : Hid (∀ k, q k = underB X n (X k).id id) := fun k => by rw [unhide hq]
  have EA := hide (specNodeAt_any X A ao n cp hn id)
  have EU := hide (fun u z => under_any X A ao n cp hn z id u)
  unfold underL IdsRes
  rw [← unhide hq]
  clear hq
  have hL : Hid (∃ L : List Int, L = (if firstN X id n < 0 then [] else pickIds X q n) ∧ (firstN X id n < 0 → L = []) ∧ (¬ firstN X id n < 0 → L = pickIds X q n)) := ⟨_, rfl, fun h => if_pos h, fun h => if_neg h⟩
  obtain ⟨L0, e0, hL1, hL2⟩ := unhide hL
  rw [← e0]
  clear e0 hL
  replace hL1 := hide hL1
  replace hL2 := hide hL2
  generalize firstN X id n = fst at EA hL1 hL2
  replace P := hide P
  go_enter Tryz.func18, Tryz.ntmps18
  go_upto_region 1 with fail
  have R := hide (new_row w (.cells #[.slice ao n cp] 26))
  have HB := hide (al1_below w (.cells #[.slice ao n cp] 26))
  obtain ⟨b1, hb1⟩ : ∃ z, Hid (z = w.heap.size) := ⟨_, rfl⟩
  rw [← unhide hb1] at R ⊢
  clear hb1
  generalize w.alloc (.cells #[.slice ao n cp] 26) = W at R HB ⊢
  go_upto_region 2 with fail
  have c0 := row1 (row_next (al1_below W (.cells #[] 3)) (unhide R))
  have E2 := hide (unhide EA _ (fun i hi => (unhide P i hi).next (below_two (unhide HB) (al1_below W (.cells #[] 3)))))
  go_wp2_with fail
  go_fit (unhide E2)
  rintro r w1 ⟨rfl, hb⟩
  have D0 := hide (below_two (al1_below W (.cells #[] 3)) hb)
  have O0 := hide (own_below (show (W.alloc (.cells #[] 3)).ownsRow W.heap.size 3 1 (.slice (some ⟨W.heap.size, 0, none⟩) 0 0) 0 [] from World.ownsRow_lit W #[] 0 (Nat.le_refl _) (by decide) rfl) hb)
  clear hb E2 c0
  by_cases hlt : fst < 0
  · have hL := hide (unhide hL1 hlt)
    go_wp2_with fail
    go_ret
    exact ⟨_, _, by rw [unhide hL]; rfl, by rw [unhide hL]; exact own_low (unhide O0) (unhide HB).size, below_two (unhide HB) (unhide D0)⟩
  have hL := hide (unhide hL2 (by omega))
  clear hL1 hL2
  go_upto_region 5 with fail
  go_loopw [5, 6] (fun v i u => ∃ (k : Nat) (p : Option Addr) (cap : Nat), k ≤ n ∧ i = .int .i64 (k : Int) ∧ v = .slice p (pickIds X q k).length cap ∧ Hid (u.ownsRow W.heap.size 3 1 (.slice p (pickIds X q k).length cap) (pickIds X q k).length ((pickIds X q k).map Zv)) ∧ Hid (Below W.heap.size W u)) (fun _ i _ => n - (intOf i).toNat)
  case atStart => exact ⟨0, some ⟨W.heap.size, 0, none⟩, 0, Nat.zero_le _, rfl, rfl, O0, D0⟩
  case round =>
    obtain ⟨k, p, cap, hk, rfl, rfl, O, D⟩ := hrel
    have R1 := hide (row_next (unhide D) (unhide R))
    have c0 := row1 (unhide R1)
    have hlen := pick_le X q k
    by_cases hkn : k < n
    · have hki : (k : Int) < (n : Int) := by omega
      obtain ⟨b, o, hao, g0, g1, g2⟩ := ((unhide P k hkn).next (below_two (unhide HB) (unhide D))).heads
      subst hao
      have E2 := hide (fun u => unhide EU u (X k).id)
      rw [← unhide hqk k] at E2
      go_upto_region 7 with fail
      obtain ⟨I, Fw, hI, F1, F2⟩ := kept_worlds wr
      have s0 : ∀ i, (Fw i).cell? ⟨b1, 0, none⟩ = some (.slice (some ⟨b, o, none⟩) n cp) := fun i => kc (F2 i) c0
      have s1 : ∀ i, (Fw i).cell? ⟨b, o + k * 31, none⟩ = some (.int .i64 (X k).id) := fun i => kc (F2 i) g0
      have E3 := hide (fun i => unhide E2 (Fw i) (fun j hj => (unhide P j hj).next (below_two (unhide HB) (below_two (unhide D) (F2 i)))))
      replace F1 := hide F1
      replace F2 := hide F2
      clear c0 g0 g1 g2
      refine wp_region_quiet_in (unhide F1) (by kernel_rfl) (by kernel_rfl) ?_
      repeat (go_big_quiet_step (first | with_reducible exact quiet_in (unhide F1) (unhide F2) (unhide E3 _)))
      refine wpQuiet_nil ?_
      rintro _ ⟨i, rfl⟩
      have hF := unhide F2 i
      have g0 := s1 i
      have c0 := s0 i
      replace O := hide (own_below (unhide O) hF)
      replace D := hide (below_two (unhide D) hF)
      clear F1 F2 E3 E2 s0 s1 hF R1
      generalize Fw i = wr at O D g0 c0 ⊢
      cases hx : q k with
      | true =>
        have hqt := hide (show pickIds X q (k + 1) = pickIds X q k ++ [(X k).id] by rw [pickIds, if_pos hx])
        clear hx
        generalize pickIds X q k = L at O hlen hqt ⊢
        go_wp2_with (at_builtin; go_must (refine wpList_append_vals wr rfl _ _ 30 3 rfl W.heap.size i0 (.int .i64 0) 8 Tryz.underlying30 hi hz0 hz1 hz2 rfl _ (L.map Zv) (by rfl) (own_ids (unhide O)) _ (by intro u hu; simp at hu; subst hu; rfl) 1 1 rfl (by rfl) (by unfold maxLen; simp; omega) (by simp; omega) W W.heap.size (Nat.le_refl _) (unhide D).size (unhide D) ?_); intro v' w1 hown' hnx'; replace hown' := ids_snoc hown'; obtain ⟨p', cap', rfl⟩ := own_form hown'; replace hown' := hide hown'; replace hnx' := hide hnx'; refine Hid.out ?_)
        unfold Hid
        go_wp2_with fail
        go_roundw
        case rel => exact ⟨k + 1, p', cap', by omega, by go_num, by rw [unhide hqt, List.length_append]; rfl, by rw [unhide hqt]; exact unhide hown', hnx'⟩
        case measure => simp [intOf]; omega
      | false =>
        have hqt := hide (show pickIds X q (k + 1) = pickIds X q k by rw [pickIds, if_neg (by rw [hx]; exact Bool.false_ne_true)])
        clear hx
        go_wp2_with fail
        go_roundw
        case rel => exact ⟨k + 1, p, cap, by omega, by go_num, by rw [unhide hqt], by rw [unhide hqt]; exact unhide O, D⟩
        case measure => simp [intOf]; omega
    · have hke : k = n := by omega
      subst hke
      have hki : ¬ (k : Int) < (k : Int) := by omega
      go_wp2_with fail
      go_ret
      exact ⟨p, cap, by rw [unhide hL]; rfl, by rw [unhide hL]; exact own_low (unhide O) (unhide HB).size, below_two (unhide HB) (unhide D)⟩
end Go.Proofs.YtmafopckplpajaaGreatDoor

/-
  The laws' markScene; lists of numbers of one's own. (By kidslaw.py.)
-/
namespace Go.Proofs.YtmafopckplpajaaGreatDoor
open Go.RowKit
set_option linter.unusedVariables false

/-- A scene of one's own whose blocks lie in base .. T. -/
def ScT (w : World) (base T : Nat) (a : Option Addr) (n c : Nat) (X : Nat → Nd) (A : Nat → Na) : Prop :=
  ∃ b ys K lo, a = some ⟨b, 0, none⟩ ∧ base ≤ b ∧ w.ownsRow base 41 31 (.slice a n c) n ys ∧ NsAt ys X A n ∧ ScN w b n X A K lo ∧ lo n ≤ T
theorem ScV.tops {w : World} {base n c : Nat} {a : Option Addr} {X : Nat → Nd} {A : Nat → Na} (h : ScV w base a n c X A) : ScT w base w.heap.size a n c X A :=
  let ⟨b, ys, K, lo, h1, h2, h3, h4, h5⟩ := h; ⟨b, ys, K, lo, h1, h2, h3, h4, h5, h5.top⟩
theorem ScV.big {w : World} {base n c : Nat} {a : Option Addr} {X : Nat → Nd} {A : Nat → Na} (h : ScV w base a n c X A) : base < w.heap.size := by
  obtain ⟨b, ys, K, lo, h1, h2, h3, h4, h5⟩ := h
  have g1 := h5.first
  have g2 := lo_mono h5.five (i := 0) (j := n) (by omega) (Nat.le_refl _)
  have g3 := h5.top
  omega
theorem ScT.sc {w : World} {base T n c : Nat} {a : Option Addr} {X : Nat → Nd} {A : Nat → Na} (h : ScT w base T a n c X A) : ScV w base a n c X A :=
  let ⟨b, ys, K, lo, h1, h2, h3, h4, h5, _⟩ := h; ⟨b, ys, K, lo, h1, h2, h3, h4, h5⟩
theorem ScT.next {w u : World} {base T n c : Nat} {a : Option Addr} {X : Nat → Nd} {A : Nat → Na} (h : ScT w base T a n c X A) (hb : Below w.heap.size w u) : ScT u base T a n c X A :=
  let ⟨b, ys, K, lo, h1, h2, h3, h4, h5, h6⟩ := h; ⟨b, ys, K, lo, h1, h2, own_below h3 hb, h4, h5.next hb, h6⟩
theorem NsAt.rowD {w : World} {B b n c : Nat} {ys : List Value} {X : Nat → Nd} {A : Nat → Na} (h1 : w.ownsRow B 41 31 (.slice (some ⟨b, 0, none⟩) n c) n ys) (h2 : NsAt ys X A n) : RowD w B b n c (fun j m => (ndC (X j) (A j)).getD m undef) := by
  refine ⟨ys, h1, fun j hj m hm => h2 j hj m _ ?_⟩
  have : m < (ndC (X j) (A j)).size := hm
  rw [Array.getElem?_eq_getElem this]
  simp [Array.getD, this]
theorem FarB.pre {b T : Nat} {w u u' : World} (hb : Below w.heap.size w u) (h : FarB b T u u') : FarB b T w u' :=
  ⟨h.os.trans hb.os, h.tape.trans hb.tape, h.output.trans hb.output, Nat.le_trans hb.size h.size, fun q hq ho => (h.out q (Nat.lt_of_lt_of_le hq hb.size) ho).trans (hb.block q hq)⟩
theorem FarB.wide {b b' T : Nat} {w u : World} (h : FarB b T w u) (hb : b' ≤ b) : FarB b' T w u :=
  ⟨h.os, h.tape, h.output, h.size, fun q hq ho => h.out q hq (by omega)⟩

set_option maxHeartbeats 2000000 in
theorem markScene_far (X : Nat → Nd) (A : Nat → Na) (a : Option Addr) (n c base T : Nat) (hs : ∀ i, i < n → (X i).Small) (ht : scT X n ≤ 1048576) (w : World) (h : ScT w base T a n c X A) :
    Calls Tryz.prog 33 #[.agg #[.slice a n c], .int .i64 1] w fun r w' => r = .returned (.int .i64 ((kN X n : Nat) : Int)) ∧ FarB base T w w' := by
  go_enter Tryz.func33, Tryz.ntmps33
  go_upto_region 1 with fail
  have R := hide (new_row w (.cells #[.slice a n c] 26))
  have HB := hide (al1_below w (.cells #[.slice a n c] 26))
  replace h := hide (h.next (unhide HB))
  generalize w.alloc (.cells #[.slice a n c] 26) = W at R HB h ⊢
  obtain ⟨b1, hb1⟩ : ∃ b, Hid (b = w.heap.size) := ⟨_, rfl⟩
  rw [← unhide hb1] at R ⊢
  have c0 := row1 (unhide R)
  obtain ⟨b, ys, K, lo, rfl, h2, h3, h4, h5, h6⟩ := unhide h
  have hbT := hide (show b < T by
    have g1 := h5.first
    have g2 := lo_mono h5.five (i := 0) (j := n) (by omega) (Nat.le_refl _)
    omega)
  have E := hide (markNodeS_any X A K lo base b n c T hs ht h5.first h6 (unhide hbT) W ⟨⟨_, h4.rowD h3, fun j hj => ⟨rfl, rfl, rfl, rfl, rfl⟩⟩, ⟨_, h5.lists⟩, FarB.refl _ _ _⟩)
  replace h2 := hide h2
  clear h h3 h4 h5 h6
  go_wp2_with fail
  go_fit (unhide E)
  rintro r w1 ⟨rfl, hm⟩
  replace hm := hide hm
  clear c0 E
  go_wp2_with fail
  go_ret
  exact ⟨rfl, ((unhide hm).far.wide (unhide h2)).pre (unhide HB)⟩

/-- Numbers that are one's own. -/
def IdV (w : World) (base : Nat) (v : Value) (n : Nat) (f : Nat → Int) : Prop := ∃ xs, w.ownsRow base 3 1 v n xs ∧ IxAt xs f n
def IdM (w : World) (base : Nat) (v : Value) (n : Nat) : Prop := ∃ xs, w.ownsRow base 3 1 v n xs ∧ Ramp xs 1 n
theorem IdV.next {w w' : World} {base n : Nat} {v : Value} {f : Nat → Int} (h : IdV w base v n f) (hb : Below w.heap.size w w') : IdV w' base v n f := let ⟨xs, h1, h2⟩ := h; ⟨xs, own_below h1 hb, h2⟩
theorem IdM.next {w w' : World} {base n : Nat} {v : Value} (h : IdM w base v n) (hb : Below w.heap.size w w') : IdM w' base v n := let ⟨xs, h1, h2⟩ := h; ⟨xs, own_below h1 hb, h2⟩
theorem IdV.lt {w : World} {base n : Nat} {v : Value} {f : Nat → Int} (h : IdV w base v n f) : ∀ k, v.ownBlock = some k → base ≤ k ∧ k < w.heap.size := let ⟨_, h1, _⟩ := h; h1.lt
theorem IdV.at {w : World} {base n c : Nat} {a : Option Addr} {f : Nat → Int} (h : IdV w base (.slice a n c) n f) : ∀ i, i < n → IntAt w a i (f i) := let ⟨_, h1, h2⟩ := h; own_ix h1 h2
theorem IdV.kept {w w' : World} {base n : Nat} {v : Value} {f : Nat → Int} {row : Option Nat} (h : IdV w base v n f) (hg : w.grownBy w' row) (ap : v.ownBlock = none ∨ v.ownBlock ≠ row) : IdV w' base v n f := let ⟨xs, h1, h2⟩ := h; ⟨xs, h1.kept hg ap, h2⟩
theorem IdM.kept {w w' : World} {base n : Nat} {v : Value} {row : Option Nat} (h : IdM w base v n) (hg : w.grownBy w' row) (ap : v.ownBlock = none ∨ v.ownBlock ≠ row) : IdM w' base v n := let ⟨xs, h1, h2⟩ := h; ⟨xs, h1.kept hg ap, h2⟩
theorem IdV.far {b T : Nat} {w w' : World} {base n : Nat} {v : Value} {f : Nat → Int} (h : IdV w base v n f) (hF : FarB b T w w') (hv : ∀ k, v.ownBlock = some k → k < b ∨ T ≤ k) : IdV w' base v n f := let ⟨xs, h1, h2⟩ := h; ⟨xs, hF.own h1 hv, h2⟩
def listZ (L : List Int) (j : Nat) : Int := L.getD j 0
theorem IdsRes.open {w w' : World} {r : Ending} {L : List Int} (h : IdsRes w r w' L) : ∃ p cp, r = .returned (.slice p L.length cp) ∧ IdV w' w.heap.size (.slice p L.length cp) L.length (listZ L) ∧ Below w.heap.size w w' := by
  obtain ⟨p, cp, rfl, h1, h2⟩ := h
  refine ⟨p, cp, rfl, ⟨_, h1, fun j hj => ?_⟩, h2⟩
  simp [listZ, Zv, List.getElem?_eq_getElem hj, List.getD]
theorem markI_v (v : Value) (base n : Nat) (f : Nat → Int) (hn : n ≤ 1048576) (w : World) (h : IdV w base v n f) :
    Calls Tryz.prog 89 #[v, .int .i64 1] w fun r w' => r = .returned (.int .i64 ((1 + n : Nat) : Int)) ∧ IdM w' base v n ∧ w.grownBy w' v.ownBlock :=
  let ⟨xs, h1, _⟩ := h; markIntS_any v base n 1 xs (by omega) hn w h1
theorem heldI_v (v : Value) (base n : Nat) (hn : n ≤ 1048576) (w : World) (h : IdM w base v n) :
    Calls Tryz.prog 138 #[v, .int .i64 1] w fun r w' => r = .returned (.int .i64 ((1 + n : Nat) : Int)) ∧ Below w.heap.size w w' :=
  let ⟨xs, h1, h2⟩ := h; (heldIntS_yes v base n 1 xs (by omega) hn w h1 h2).mono fun _ _ ⟨e1, e2⟩ => ⟨e1, e2 ▸ Below.refl _ _⟩
end Go.Proofs.YtmafopckplpajaaGreatDoor
