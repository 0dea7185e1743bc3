/-
  Lists of lists of points that came in: their cells written out.
-/
import Derived.Test.YticgjigjlclefaaOpenPath
import Derived.Test.YticgjigjlclefaaWindP
import Derived.Deep.Slices
namespace Go.Proofs.Yticgjigjlclefaa
open Go.ChangeShapes Go.WideShapes Go.RowKit

theorem open_lines {H : Type} {enc : TypeId × Value → H} {P : Program} {w : World} {base : Nat} {sp : Nat → Bool} {held : Bool} {T t e : TypeId} {f0 f1 : Field} {a : Option Addr} {n c fuel : Nat} {x : DataW H × List MemPlace}
    (hT : P.underlying T = some (.slice t)) (cT : P.cellsOf t = 1)
    (ht : P.underlying t = some (.slice e)) (he : P.underlying e = some (.struct #[f0, f1])) (ce : P.cellsOf e = 2) (o0 : f0.offset = 0) (o1 : f1.offset = 1) (c0 : P.cellsOf f0.type = 1) (c1 : P.cellsOf f1.type = 1)
    (k0 : P.underlying f0.type = some (.int .i64)) (k1 : P.underlying f1.type = some (.int .i64))
    (h : DataW.trod enc P w base sp held fuel T [.slice a n c] = some x) :
    ∃ (ln : Nat → Nat) (pf : Nat → Nat → Pt), n ≤ maxLen ∧ (∀ i, i < n → ln i ≤ maxLen) ∧ ∀ i, i < n → LArg w a i (ln i) (pf i) := by
  rcases Go.Deep.open_slice1 hT cT h with ⟨hcs, _⟩ | ⟨b, len, cap, m, q, V, D, Pl, hcs, _, hl, hm, hmm, _, hx⟩
  · simp at hcs
    obtain ⟨rfl, rfl, rfl⟩ := hcs
    exact ⟨fun _ => 0, fun _ _ => (0, 0), by unfold maxLen; omega, fun i hi => absurd hi (by omega), fun i hi => absurd hi (by omega)⟩
  · simp at hcs
    obtain ⟨rfl, rfl, rfl⟩ := hcs
    have hnm : n ≤ m := by rw [hmm]; split <;> omega
    have each : ∀ i, i < n → ∃ z : Nat × (Nat → Pt), z.1 ≤ maxLen ∧ LArg w (some b) i z.1 z.2 := by
      intro i hi
      obtain ⟨g0, r0⟩ := hx i (by omega)
      obtain ⟨x, l, cx, f, e0, hl', hp⟩ := open_plist ht he ce o0 o1 c0 c1 k0 k1 r0
      rw [e0] at g0
      have hs := spot_none (hx 0 (by omega)).1
      obtain ⟨bb, off, spot⟩ := b
      dsimp only at hs
      subst hs
      have hadd : (⟨bb, off, none⟩ : Addr).add i = ⟨bb, off + i, none⟩ := by unfold Addr.add; split <;> simp_all
      rw [hadd] at g0
      exact ⟨(l, f), hl', bb, off, x, cx, rfl, g0, hp⟩
    obtain ⟨f, hf⟩ := Go.Deep.choose_lt each
    exact ⟨fun i => (f i).1, fun i => (f i).2, by omega, fun i hi => (hf i hi).1, fun i hi => (hf i hi).2⟩
end Go.Proofs.Yticgjigjlclefaa
