/-
  Paths that came in: their cells written out.
-/
import Derived.Test.YtngnleoggblinaaRows
import Derived.Test.YtngnleoggblinaaPathL
import Derived.Test.YtngnleoggblinaaOpenAgg
import Derived.Test.YtngnleoggblinaaOpenPts
import Derived.ChangeSlices
namespace Go.Proofs.Ytngnleoggblinaa
open Go.ChangeShapes Go.WideShapes Go.RowKit

theorem spot_none {w : World} {b : Addr} {v : Value} (h : w.cell? (b.add 0) = some v) : b.spot = none := by
  have hs := World.cell?_spot h
  simpa [Addr.add] using hs

theorem open_ilist {H : Type} {enc : TypeId × Value → H} {P : Program} {w : World} {base : Nat} {sp : Nat → Bool} {held : Bool} {t e : TypeId} {c : Value} {fuel : Nat} {x : DataW H × List MemPlace}
    (ht : P.underlying t = some (.slice e)) (he : P.underlying e = some (.int .i64)) (hc : P.cellsOf e = 1) (h : DataW.trod enc P w base sp held fuel t [c] = some x) :
    ∃ (a : Option Addr) (n cap : Nat) (f : Nat → Int), c = .slice a n cap ∧ n ≤ maxLen ∧ ∀ i, i < n → IntAt w a i (f i) := by
  rcases open_ints ht he hc h with ⟨hcs, _⟩ | ⟨b, l, cap, zs, hcs, _, hl, hm, hz, _, hcell, hwz⟩
  · simp at hcs
    exact ⟨none, 0, 0, fun _ => 0, hcs, by unfold maxLen; omega, fun i hi => absurd hi (by omega)⟩
  · simp at hcs
    have hlz : l ≤ zs.length := by rw [hz]; split <;> omega
    refine ⟨some b, l, cap, fun i => zs.getD i 0, hcs, by omega, fun i hi => ?_⟩
    have h0 := spot_none (hcell 0 (by omega))
    obtain ⟨bb, off, spot⟩ := b
    dsimp only at h0
    subst h0
    have hi' := hcell i (by omega)
    have hadd : (⟨bb, off, none⟩ : Addr).add i = ⟨bb, off + i, none⟩ := by unfold Addr.add; split <;> simp_all
    rw [hadd] at hi'
    exact ⟨bb, off, rfl, hi'⟩

theorem open_plist {H : Type} {enc : TypeId × Value → H} {P : Program} {w : World} {base : Nat} {sp : Nat → Bool} {held : Bool} {t e : TypeId} {f0 f1 : Field} {c : Value} {fuel : Nat} {x : DataW H × List MemPlace}
    (ht : P.underlying t = some (.slice e)) (he : P.underlying e = some (.struct #[f0, f1])) (ce : P.cellsOf e = 2) (o0 : f0.offset = 0) (o1 : f1.offset = 1) (c0 : P.cellsOf f0.type = 1) (c1 : P.cellsOf f1.type = 1)
    (k0 : P.underlying f0.type = some (.int .i64)) (k1 : P.underlying f1.type = some (.int .i64))
    (h : DataW.trod enc P w base sp held fuel t [c] = some x) :
    ∃ (a : Option Addr) (n cap : Nat) (f : Nat → Int × Int), c = .slice a n cap ∧ n ≤ maxLen ∧ ∀ i, i < n → PtArg w a i (f i) := by
  rcases Go.Deep.open_slice_pairs ht he ce o0 o1 c0 c1 h with ⟨hcs, _⟩ | ⟨b, len, cap, m, q, V0, V1, D0, D1, P0, P1, hcs, _, hl, hm, hmm, _, hx⟩
  · simp at hcs
    subst hcs
    obtain ⟨f, h1, h2⟩ := open_points ht he ce o0 o1 c0 c1 k0 k1 h
    exact ⟨_, _, _, f, rfl, h1, h2⟩
  · simp at hcs
    subst hcs
    obtain ⟨f, h1, h2⟩ := open_points ht he ce o0 o1 c0 c1 k0 k1 h
    exact ⟨_, _, _, f, rfl, h1, h2⟩

theorem open_path {H : Type} {enc : TypeId × Value → H} {P : Program} {w : World} {r : Reach} {base b0 : Nat} {sp : Nat → Bool} {held : Bool} {t t0 t1 e0 e1 : TypeId} {f0 f1 g0 g1 : Field} {v : Value} {d : DataW H} {p : List MemPlace}
    (hs : P.underlying t = some (.struct #[f0, f1])) (hf : [f0, f1].map (fun f => (f.offset, f.type)) = [(0, t0), (1, t1)]) (hc0 : P.cellsOf t0 = 1) (hc1 : P.cellsOf t1 = 1) (hC : P.cellsOf t = 2)
    (s0 : P.underlying t0 = some (.slice e0)) (s1 : P.underlying t1 = some (.slice e1)) (i0 : P.underlying e0 = some (.int .i64)) (ce0 : P.cellsOf e0 = 1)
    (he : P.underlying e1 = some (.struct #[g0, g1])) (ce : P.cellsOf e1 = 2) (o0 : g0.offset = 0) (o1 : g1.offset = 1) (c0 : P.cellsOf g0.type = 1) (c1 : P.cellsOf g1.type = 1) (k0 : P.underlying g0.type = some (.int .i64)) (k1 : P.underlying g1.type = some (.int .i64))
    (hv : Value.okWide P w r b0 t v) (h : DataW.Trod enc P w base sp held t v d p) :
    ∃ (a : Option Addr) (n c : Nat) (vf : Nat → Int) (b : Option Addr) (m d : Nat) (pf : Nat → Int × Int), v = .agg #[.slice a n c, .slice b m d] ∧ n ≤ maxLen ∧ (∀ i, i < n → IntAt w a i (vf i)) ∧ m ≤ maxLen ∧ ∀ i, i < m → PtArg w b i (pf i) := by
  obtain ⟨cs, rfl, hsz⟩ := okWide_struct hs hv
  obtain ⟨x0, x1, rfl⟩ := array_2 (hsz.trans hC)
  obtain ⟨fuel, hh⟩ := h
  obtain ⟨xs, m', _, _, _, hl, hx⟩ := DataW.trod_struct hs hh
  have hl' : xs.length = 2 := hl
  simp only [List.map_cons, List.map_nil, List.cons.injEq, Prod.mk.injEq, and_true] at hf
  obtain ⟨⟨q0, r0⟩, ⟨q1, r1⟩⟩ := hf
  have y0 := hx 0 f0 rfl
  rw [q0, r0, hc0, List.getElem?_eq_getElem (by omega)] at y0
  have y1 := hx 1 f1 rfl
  rw [q1, r1, hc1, List.getElem?_eq_getElem (by omega)] at y1
  simp [Value.cells] at y0 y1
  obtain ⟨a, n, c, vf, rfl, h1, h2⟩ := open_ilist s0 i0 ce0 y0
  obtain ⟨b, m, d, pf, rfl, h3, h4⟩ := open_plist s1 he ce o0 o1 c0 c1 k0 k1 y1
  exact ⟨a, n, c, vf, b, m, d, pf, rfl, h1, h2, h3, h4⟩
end Go.Proofs.Ytngnleoggblinaa
