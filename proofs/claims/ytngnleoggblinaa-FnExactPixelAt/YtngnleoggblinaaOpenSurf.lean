/-
  Surfaces that came in: their cells written out.
-/
import Derived.Test.YtngnleoggblinaaOpenMask
import Derived.Test.YtngnleoggblinaaColRow
import Derived.Deep.Slices
namespace Go.Proofs.Ytngnleoggblinaa
open Go.ChangeShapes Go.WideShapes Go.RowKit

theorem add_nonec (bb off j : Nat) : (⟨bb, off, none⟩ : Addr).add j = ⟨bb, off + j, none⟩ := by unfold Addr.add; split <;> simp_all

theorem open_cols {H : Type} {enc : TypeId × Value → H} {P : Program} {w : World} {base : Nat} {sp : Nat → Bool} {held : Bool} {t e ei : TypeId} {f0 f1 f2 f3 : Field} {a : Option Addr} {n c fuel : Nat} {x : DataW H × List MemPlace}
    (ht : P.underlying t = some (.slice e)) (he : P.underlying e = some (.struct #[f0, f1, f2, f3])) (hf : [f0, f1, f2, f3].map (fun f => (f.offset, f.type)) = [(0, ei), (1, ei), (2, ei), (3, ei)]) (hei : P.underlying ei = some (.int .i64)) (hce : P.cellsOf ei = 1) (ce : P.cellsOf e = 4)
    (h : DataW.trod enc P w base sp held fuel t [.slice a n c] = some x) :
    ∃ f : Nat → B4, n ≤ maxLen ∧ ∀ i, i < n → ClAt w a i (f i) := by
  rcases Go.Deep.open_slice ht h with ⟨hcs, _⟩ | ⟨b, len, cap, m, q, D, Pl, hcs, _, hl, hm, hmm, _, hx⟩
  · simp at hcs
    obtain ⟨rfl, rfl, rfl⟩ := hcs
    exact ⟨fun _ => ⟨0, 0, 0, 0⟩, by unfold maxLen; omega, fun i hi => absurd hi (by omega)⟩
  · simp at hcs
    obtain ⟨rfl, rfl, rfl⟩ := hcs
    have hnm : n ≤ m := by rw [hmm]; split <;> omega
    have each : ∀ i, i < n → ∃ p : B4, ClAt w (some b) i p := by
      intro i hi
      have hs : b.spot = none := by
        obtain ⟨cs0, h1, _⟩ := hx 0 (by omega)
        rw [ce] at h1
        obtain ⟨_, hlen, hcell⟩ := World.cells?_some h1
        have := World.cell?_spot ((hcell 0 (by omega)).trans (List.getElem?_eq_getElem (by omega)))
        simpa [Addr.add] using this
      obtain ⟨bb, off, spot⟩ := b
      dsimp only at hs
      subst hs
      obtain ⟨cs', h1, h2⟩ := hx i (by omega)
      rw [ce, add_nonec] at h1
      obtain ⟨_, hlen, hcell⟩ := World.cells?_some h1
      match cs', hlen, hcell, h2 with
      | [v0, v1, v2, v3], _, hcell, h2 =>
        obtain ⟨z0, z1, z2, z3, rfl, rfl, rfl, rfl, _⟩ := open_box he hf hei hce h2
        have e0 := hcell 0 (by simp)
        have e1 := hcell 1 (by simp)
        have e2 := hcell 2 (by simp)
        have e3 := hcell 3 (by simp)
        rw [add_nonec] at e0 e1 e2 e3
        exact ⟨⟨z0, z1, z2, z3⟩, bb, off, rfl, by simpa using e0, by simpa using e1, by simpa using e2, by simpa using e3⟩
    haveI : Inhabited B4 := ⟨⟨0, 0, 0, 0⟩⟩
    obtain ⟨f, hf⟩ := Go.Deep.choose_lt each
    exact ⟨f, by omega, hf⟩

theorem array_3s {α : Type} {cs : Array α} (h : cs.size = 3) : ∃ c0 c1 c2, cs = #[c0, c1, c2] := by
  obtain ⟨l⟩ := cs
  match l, h with
  | [c0, c1, c2], _ => exact ⟨c0, c1, c2, rfl⟩

theorem open_surface {H : Type} {enc : TypeId × Value → H} {P : Program} {w : World} {r : Reach} {base b0 : Nat} {sp : Nat → Bool} {held : Bool} {t ts e ec : TypeId} {f0 f1 f2 g0 g1 g2 g3 : Field} {v : Value} {d : DataW H} {p : List MemPlace}
    (hs : P.underlying t = some (.struct #[f0, f1, f2])) (hf : [f0, f1, f2].map (fun f => (f.offset, f.type)) = [(0, e), (1, e), (2, ts)]) (hce : P.cellsOf e = 1) (hc1 : P.cellsOf ts = 1) (hC : P.cellsOf t = 3)
    (he : P.underlying e = some (.int .i64)) (hl : P.underlying ts = some (.slice ec))
    (hb : P.underlying ec = some (.struct #[g0, g1, g2, g3])) (hg : [g0, g1, g2, g3].map (fun f => (f.offset, f.type)) = [(0, e), (1, e), (2, e), (3, e)]) (hcc : P.cellsOf ec = 4)
    (hv : Value.okWide P w r b0 t v) (h : DataW.Trod enc P w base sp held t v d p) :
    ∃ (x y : Int) (a : Option Addr) (n c : Nat) (f : Nat → B4), v = .agg #[.int .i64 x, .int .i64 y, .slice a n c] ∧ n ≤ maxLen ∧ (∀ i, i < n → ClAt w a i (f i)) ∧ (Lit.int .i64 x).wf = true ∧ (Lit.int .i64 y).wf = true := by
  obtain ⟨cs, rfl, hsz⟩ := okWide_struct hs hv
  obtain ⟨c0, c1, c2, rfl⟩ := array_3s (hsz.trans hC)
  obtain ⟨fuel, hh⟩ := h
  obtain ⟨xs, m', _, _, _, hl', hx⟩ := DataW.trod_struct hs hh
  have hl2 : xs.length = 3 := hl'
  simp only [List.map_cons, List.map_nil, List.cons.injEq, Prod.mk.injEq, and_true] at hf
  obtain ⟨⟨q0, r0⟩, ⟨q1, r1⟩, ⟨q2, r2⟩⟩ := hf
  have y0 := hx 0 f0 rfl
  rw [q0, r0, hce, List.getElem?_eq_getElem (by omega)] at y0
  have y1 := hx 1 f1 rfl
  rw [q1, r1, hce, List.getElem?_eq_getElem (by omega)] at y1
  have y2 := hx 2 f2 rfl
  rw [q2, r2, hc1, List.getElem?_eq_getElem (by omega)] at y2
  simp [Value.cells] at y0 y1 y2
  obtain ⟨z0, e0, _, w0⟩ := DataW.trod_int he y0
  obtain ⟨z1, e1, _, w1⟩ := DataW.trod_int he y1
  simp at e0 e1
  subst e0 e1
  rcases Go.Deep.open_slice hl y2 with ⟨hcs, _⟩ | ⟨b, len, cap, m, q, D, Pl, hcs, _⟩
  · simp at hcs
    subst hcs
    obtain ⟨f, hm, H⟩ := open_cols hl hb hg he hce hcc y2
    exact ⟨z0, z1, _, _, _, f, rfl, hm, H, w0, w1⟩
  · simp at hcs
    subst hcs
    obtain ⟨f, hm, H⟩ := open_cols hl hb hg he hce hcc y2
    exact ⟨z0, z1, _, _, _, f, rfl, hm, H, w0, w1⟩
end Go.Proofs.Ytngnleoggblinaa
