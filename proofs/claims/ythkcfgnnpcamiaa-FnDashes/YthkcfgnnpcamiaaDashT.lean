/-
  Dashes of a drawn line: what the laws hold.
-/
import Derived.Test.YthkcfgnnpcamiaaDashS
import Derived.Test.YthkcfgnnpcamiaaSamesL
import Derived.Test.YthkcfgnnpcamiaaDrawPts
import Derived.Test.YthkcfgnnpcamiaaDrawP
namespace Go.Proofs.Ythkcfgnnpcamiaa
open Go.RowKit
set_option linter.unusedVariables false

def ds2 (d0 d1 : Int) (i : Nat) : Int := if i = 0 then d0 else d1
theorem ds2_ok {d0 d1 : Int} (h0 : 1 ≤ d0 ∧ d0 ≤ 20000) (h1 : 1 ≤ d1 ∧ d1 ≤ 20000) : dashOkB 2 (ds2 d0 d1) = true := by
  refine dashOk_iff.2 ⟨rfl, by omega, ?_⟩
  intro i hi
  unfold ds2
  split <;> assumption
theorem ds2_arg {w : World} {d0 d1 : Int} {b : Nat} {t : TypeId} (h : w.heap[b]? = some (.cells #[.int .i64 d0, .int .i64 d1] t (0, 0))) : ∀ i, i < 2 → IntAt w (some ⟨b, 0, none⟩) i (ds2 d0 d1 i) := by
  obtain ⟨h0, h1⟩ := row2 h
  intro i hi
  match i, hi with
  | 0, _ => exact ⟨b, 0, rfl, h0⟩
  | 1, _ => exact ⟨b, 0, rfl, h1⟩
theorem small_ok {p : Pt} (h : SmallPt p) : pointOkB p.1 p.2 = true := by
  obtain ⟨h1, h2⟩ := h
  simp only [pointOkB, inB, Bool.and_eq_true, decide_eq_true_eq]
  omega
theorem line_ok {l : List Pt} (h : ∀ q ∈ l, SmallPt q) : lineOk l.length (listP l) := by
  intro i hi
  have e : listP l i = l[i] := by unfold listP; rw [List.getD_eq_getElem?_getD, List.getElem?_eq_getElem hi]; rfl
  rw [e]
  exact small_ok (h _ (List.getElem_mem hi))
theorem listN_listP (l : List Pt) : listN (listP l) l.length = l := by
  apply List.ext_getElem?
  intro i
  by_cases hi : i < l.length
  · rw [listN_get _ hi, List.getElem?_eq_getElem hi]
    unfold listP
    rw [List.getD_eq_getElem?_getD, List.getElem?_eq_getElem hi]; rfl
  · rw [List.getElem?_eq_none (by rw [listN_len]; omega), List.getElem?_eq_none (by omega)]
/-- A phase of all dashes is none. -/
theorem dash_phase {n : Nat} {pf : Nat → Pt} {d0 d1 : Int} (h0 : 1 ≤ d0 ∧ d0 ≤ 9000) (h1 : 1 ≤ d1 ∧ d1 ≤ 9000) (hn : 2 ≤ n) (hp : lineOk n pf) : dashL n pf 2 (ds2 d0 d1) (5 + d0 + d1) = dashL n pf 2 (ds2 d0 d1) 5 := by
  have ok := ds2_ok (d0 := d0) (d1 := d1) (by omega) (by omega)
  have g1 : dashGo n pf 2 (ds2 d0 d1) (5 + d0 + d1) := ⟨ok, inB_true.2 (by omega), hn, hp⟩
  have g2 : dashGo n pf 2 (ds2 d0 d1) 5 := ⟨ok, inB_true.2 (by omega), hn, hp⟩
  have hd := dash_dsh ok (by decide)
  have e : sumN (ds2 d0 d1) 2 = d0 + d1 := by simp [sumN, ds2]
  have hs := begP_shift hd (ph := 5 + d0 + d1) (by rw [e]; omega)
  rw [e, show 5 + d0 + d1 - (d0 + d1) = 5 by omega] at hs
  rw [dashL_yes g1 (by decide), dashL_yes g2 (by decide)]
  unfold startS
  rw [hs]
theorem dash_big {n : Nat} {pf : Nat → Pt} {m : Nat} {ds : Nat → Int} {ph : Int} (hm : m ≠ 0) : ∀ l ∈ dashL n pf m ds ph, 2 ≤ l.length := by
  intro l hl
  by_cases hg : dashGo n pf m ds ph
  · rw [dashL_yes hg hm] at hl
    have := (List.mem_filter.1 hl).2
    have := of_decide_eq_true this
    omega
  · rw [dashL_no hg] at hl; simp at hl
theorem rdiv_nine (z : Int) : rdivI (z * 9) 9 = z ∧ rdivI (z * 0) 9 = 0 := by
  unfold rdivI
  refine ⟨?_, ?_⟩
  · rw [if_neg (by decide)]; split <;> omega
  · rw [if_neg (by decide)]; split <;> omega
theorem pat_ends {a b : Pt} (ha : pointOkB a.1 a.2 = true) (hb : pointOkB b.1 b.2 = true) : pointAtP a b 0 9 = a ∧ pointAtP a b 9 9 = b := by
  have ok : patOk a b 9 = true := by unfold patOk; rw [ha, hb]; rfl
  have c0 : clampI 0 0 9 = 0 := by decide
  have c9 : clampI 9 0 9 = 9 := by decide
  unfold pointAtP
  rw [if_pos ok, if_pos ok, c0, c9, (rdiv_nine _).1, (rdiv_nine _).1, (rdiv_nine _).2, (rdiv_nine _).2]
  refine ⟨?_, ?_⟩
  · rw [Int.add_zero, Int.add_zero]
  · rw [show a.1 + (b.1 - a.1) = b.1 by omega, show a.2 + (b.2 - a.2) = b.2 by omega]
end Go.Proofs.Ythkcfgnnpcamiaa
