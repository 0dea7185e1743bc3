/-
  OpenAgg · OpenPts · OpenPath · OpenMask · OpenPaint · OpenSurf: texts of one claim, in one.
-/
import Derived.Test.YthelfgippiimiabGreatRows
import Derived.ProofKit
import Derived.OpenShut
import Derived.ChangeArms
import Derived.Test.YthelfgippiimiabGreatFnExactPaintMaskM1
import Derived.Deep.SlicePairs
import Derived.ChangeSlices
import Derived.Test.YthelfgippiimiabGreatFnExactPaintMaskM2
import Derived.Deep.Slices
import Derived.Test.YthelfgippiimiabGreatFnExactPaintMaskM7

/-
  Flat structs of whole numbers that came in: their cells written out.
-/
namespace Go.Proofs.YthelfgippiimiabGreat
open Go.ChangeShapes Go.WideShapes

theorem array_2 {α : Type} {cs : Array α} (h : cs.size = 2) : ∃ c0 c1, cs = #[c0, c1] := by
  obtain ⟨l⟩ := cs
  match l, h with
  | [c0, c1], _ => exact ⟨c0, c1, rfl⟩

theorem open_struct2 {H : Type} {enc : TypeId × Value → H} {P : Program} {w : World} {r : Reach} {base b0 : Nat} {sp : Nat → Bool} {held : Bool} {t e : TypeId} {f0 f1 : Field} {v : Value} {d : DataW H} {p : List MemPlace}
    (hs : P.underlying t = some (.struct #[f0, f1])) (hf : [f0, f1].map (fun f => (f.offset, f.type)) = [(0, e), (1, e)]) (he : P.underlying e = some (.int .i64)) (hce : P.cellsOf e = 1) (hC : P.cellsOf t = 2)
    (hv : Value.okWide P w r b0 t v) (h : DataW.Trod enc P w base sp held t v d p) :
    ∃ a0 a1 : Int, v = .agg #[.int .i64 a0, .int .i64 a1] ∧ (Lit.int .i64 a0).wf = true ∧ (Lit.int .i64 a1).wf = true := by
  obtain ⟨cs, rfl, hsz⟩ := okWide_struct hs hv
  obtain ⟨c0, c1, rfl⟩ := array_2 (hsz.trans hC)
  obtain ⟨fuel, hh⟩ := h
  obtain ⟨xs, m, _, _, _, hl, hx⟩ := DataW.trod_struct hs hh
  have hl' : xs.length = 2 := hl
  simp only [List.map_cons, List.map_nil, List.cons.injEq, Prod.mk.injEq, and_true] at hf
  obtain ⟨⟨o0, t0⟩, ⟨o1, t1⟩⟩ := hf
  have g0 := hx 0 f0 rfl
  rw [o0, t0, hce, List.getElem?_eq_getElem (by omega)] at g0
  obtain ⟨z0, e0, _, w0⟩ := DataW.trod_int he g0
  simp [Value.cells] at e0
  have g1 := hx 1 f1 rfl
  rw [o1, t1, hce, List.getElem?_eq_getElem (by omega)] at g1
  obtain ⟨z1, e1, _, w1⟩ := DataW.trod_int he g1
  simp [Value.cells] at e1
  exact ⟨z0, z1, by rw [e0, e1], w0, w1⟩

theorem array_4 {α : Type} {cs : Array α} (h : cs.size = 4) : ∃ c0 c1 c2 c3, cs = #[c0, c1, c2, c3] := by
  obtain ⟨l⟩ := cs
  match l, h with
  | [c0, c1, c2, c3], _ => exact ⟨c0, c1, c2, c3, rfl⟩

theorem open_struct4 {H : Type} {enc : TypeId × Value → H} {P : Program} {w : World} {r : Reach} {base b0 : Nat} {sp : Nat → Bool} {held : Bool} {t e : TypeId} {f0 f1 f2 f3 : Field} {v : Value} {d : DataW H} {p : List MemPlace}
    (hs : P.underlying t = some (.struct #[f0, f1, f2, f3])) (hf : [f0, f1, f2, f3].map (fun f => (f.offset, f.type)) = [(0, e), (1, e), (2, e), (3, e)]) (he : P.underlying e = some (.int .i64)) (hce : P.cellsOf e = 1) (hC : P.cellsOf t = 4)
    (hv : Value.okWide P w r b0 t v) (h : DataW.Trod enc P w base sp held t v d p) :
    ∃ a0 a1 a2 a3 : Int, v = .agg #[.int .i64 a0, .int .i64 a1, .int .i64 a2, .int .i64 a3] ∧ (Lit.int .i64 a0).wf = true ∧ (Lit.int .i64 a1).wf = true ∧ (Lit.int .i64 a2).wf = true ∧ (Lit.int .i64 a3).wf = true := by
  obtain ⟨cs, rfl, hsz⟩ := okWide_struct hs hv
  obtain ⟨c0, c1, c2, c3, rfl⟩ := array_4 (hsz.trans hC)
  obtain ⟨fuel, hh⟩ := h
  obtain ⟨xs, m, _, _, _, hl, hx⟩ := DataW.trod_struct hs hh
  have hl' : xs.length = 4 := hl
  simp only [List.map_cons, List.map_nil, List.cons.injEq, Prod.mk.injEq, and_true] at hf
  obtain ⟨⟨o0, t0⟩, ⟨o1, t1⟩, ⟨o2, t2⟩, ⟨o3, t3⟩⟩ := hf
  have g0 := hx 0 f0 rfl
  rw [o0, t0, hce, List.getElem?_eq_getElem (by omega)] at g0
  obtain ⟨z0, e0, _, w0⟩ := DataW.trod_int he g0
  simp [Value.cells] at e0
  have g1 := hx 1 f1 rfl
  rw [o1, t1, hce, List.getElem?_eq_getElem (by omega)] at g1
  obtain ⟨z1, e1, _, w1⟩ := DataW.trod_int he g1
  simp [Value.cells] at e1
  have g2 := hx 2 f2 rfl
  rw [o2, t2, hce, List.getElem?_eq_getElem (by omega)] at g2
  obtain ⟨z2, e2, _, w2⟩ := DataW.trod_int he g2
  simp [Value.cells] at e2
  have g3 := hx 3 f3 rfl
  rw [o3, t3, hce, List.getElem?_eq_getElem (by omega)] at g3
  obtain ⟨z3, e3, _, w3⟩ := DataW.trod_int he g3
  simp [Value.cells] at e3
  exact ⟨z0, z1, z2, z3, by rw [e0, e1, e2, e3], w0, w1, w2, w3⟩

theorem array_6 {α : Type} {cs : Array α} (h : cs.size = 6) : ∃ c0 c1 c2 c3 c4 c5, cs = #[c0, c1, c2, c3, c4, c5] := by
  obtain ⟨l⟩ := cs
  match l, h with
  | [c0, c1, c2, c3, c4, c5], _ => exact ⟨c0, c1, c2, c3, c4, c5, rfl⟩

theorem open_struct6 {H : Type} {enc : TypeId × Value → H} {P : Program} {w : World} {r : Reach} {base b0 : Nat} {sp : Nat → Bool} {held : Bool} {t e : TypeId} {f0 f1 f2 f3 f4 f5 : Field} {v : Value} {d : DataW H} {p : List MemPlace}
    (hs : P.underlying t = some (.struct #[f0, f1, f2, f3, f4, f5])) (hf : [f0, f1, f2, f3, f4, f5].map (fun f => (f.offset, f.type)) = [(0, e), (1, e), (2, e), (3, e), (4, e), (5, e)]) (he : P.underlying e = some (.int .i64)) (hce : P.cellsOf e = 1) (hC : P.cellsOf t = 6)
    (hv : Value.okWide P w r b0 t v) (h : DataW.Trod enc P w base sp held t v d p) :
    ∃ a0 a1 a2 a3 a4 a5 : Int, v = .agg #[.int .i64 a0, .int .i64 a1, .int .i64 a2, .int .i64 a3, .int .i64 a4, .int .i64 a5] ∧ (Lit.int .i64 a0).wf = true ∧ (Lit.int .i64 a1).wf = true ∧ (Lit.int .i64 a2).wf = true ∧ (Lit.int .i64 a3).wf = true ∧ (Lit.int .i64 a4).wf = true ∧ (Lit.int .i64 a5).wf = true := by
  obtain ⟨cs, rfl, hsz⟩ := okWide_struct hs hv
  obtain ⟨c0, c1, c2, c3, c4, c5, rfl⟩ := array_6 (hsz.trans hC)
  obtain ⟨fuel, hh⟩ := h
  obtain ⟨xs, m, _, _, _, hl, hx⟩ := DataW.trod_struct hs hh
  have hl' : xs.length = 6 := hl
  simp only [List.map_cons, List.map_nil, List.cons.injEq, Prod.mk.injEq, and_true] at hf
  obtain ⟨⟨o0, t0⟩, ⟨o1, t1⟩, ⟨o2, t2⟩, ⟨o3, t3⟩, ⟨o4, t4⟩, ⟨o5, t5⟩⟩ := hf
  have g0 := hx 0 f0 rfl
  rw [o0, t0, hce, List.getElem?_eq_getElem (by omega)] at g0
  obtain ⟨z0, e0, _, w0⟩ := DataW.trod_int he g0
  simp [Value.cells] at e0
  have g1 := hx 1 f1 rfl
  rw [o1, t1, hce, List.getElem?_eq_getElem (by omega)] at g1
  obtain ⟨z1, e1, _, w1⟩ := DataW.trod_int he g1
  simp [Value.cells] at e1
  have g2 := hx 2 f2 rfl
  rw [o2, t2, hce, List.getElem?_eq_getElem (by omega)] at g2
  obtain ⟨z2, e2, _, w2⟩ := DataW.trod_int he g2
  simp [Value.cells] at e2
  have g3 := hx 3 f3 rfl
  rw [o3, t3, hce, List.getElem?_eq_getElem (by omega)] at g3
  obtain ⟨z3, e3, _, w3⟩ := DataW.trod_int he g3
  simp [Value.cells] at e3
  have g4 := hx 4 f4 rfl
  rw [o4, t4, hce, List.getElem?_eq_getElem (by omega)] at g4
  obtain ⟨z4, e4, _, w4⟩ := DataW.trod_int he g4
  simp [Value.cells] at e4
  have g5 := hx 5 f5 rfl
  rw [o5, t5, hce, List.getElem?_eq_getElem (by omega)] at g5
  obtain ⟨z5, e5, _, w5⟩ := DataW.trod_int he g5
  simp [Value.cells] at e5
  exact ⟨z0, z1, z2, z3, z4, z5, by rw [e0, e1, e2, e3, e4, e5], w0, w1, w2, w3, w4, w5⟩
end Go.Proofs.YthelfgippiimiabGreat

/-
  Lists of points that came in: their cells written out.
-/
namespace Go.Proofs.YthelfgippiimiabGreat
open Go.ChangeShapes Go.WideShapes Go.RowKit

theorem open_points {H : Type} {enc : TypeId × Value → H} {P : Program} {w : World} {base : Nat} {sp : Nat → Bool} {held : Bool} {t e : TypeId} {f0 f1 : Field} {a : Option Addr} {n c fuel : Nat} {x : DataW H × List MemPlace}
    (ht : P.underlying t = some (.slice e)) (he : P.underlying e = some (.struct #[f0, f1])) (ce : P.cellsOf e = 2) (o0 : f0.offset = 0) (o1 : f1.offset = 1) (c0 : P.cellsOf f0.type = 1) (c1 : P.cellsOf f1.type = 1)
    (k0 : P.underlying f0.type = some (.int .i64)) (k1 : P.underlying f1.type = some (.int .i64))
    (h : DataW.trod enc P w base sp held fuel t [.slice a n c] = some x) :
    ∃ f : Nat → Int × Int, n ≤ maxLen ∧ ∀ i, i < n → PtArg w a i (f i) := by
  rcases Go.Deep.open_slice_pairs ht he ce o0 o1 c0 c1 h with ⟨hcs, _⟩ | ⟨b, len, cap, m, q, V0, V1, D0, D1, P0, P1, hcs, _, hl, hm, hmm, _, hx⟩
  · simp at hcs
    obtain ⟨rfl, rfl, rfl⟩ := hcs
    exact ⟨fun _ => (0, 0), by unfold maxLen; omega, fun i hi => absurd hi (by omega)⟩
  · simp at hcs
    obtain ⟨rfl, rfl, rfl⟩ := hcs
    have hnm : n ≤ m := by rw [hmm]; split <;> omega
    have each : ∀ i, i < n → ∃ p : Int × Int, PtArg w (some b) i p := by
      intro i hi
      obtain ⟨g0, g1, r0, r1⟩ := hx i (by omega)
      obtain ⟨z0, e0, _, _⟩ := DataW.trod_int k0 r0
      obtain ⟨z1, e1, _, _⟩ := DataW.trod_int k1 r1
      simp at e0 e1
      rw [e0] at g0
      rw [e1] at g1
      obtain ⟨bb, off, spot⟩ := b
      have hs := World.cell?_spot (hx 0 (by omega)).1
      have hspot : spot = none := by simpa [Addr.add] using hs
      subst hspot
      refine ⟨(z0, z1), bb, off, rfl, ?_, ?_⟩
      · by_cases hi0 : i = 0
        · subst hi0; simpa [Addr.add] using g0
        · have : i * 2 ≠ 0 := by omega
          rw [Addr.add, if_neg this] at g0; exact g0
      · simpa [Addr.add, Nat.add_assoc] using g1
    obtain ⟨f, hf⟩ := Go.Deep.choose_lt each
    exact ⟨f, by omega, hf⟩
end Go.Proofs.YthelfgippiimiabGreat

/-
  Paths that came in: their cells written out.
-/
namespace Go.Proofs.YthelfgippiimiabGreat
open Go.ChangeShapes Go.WideShapes Go.RowKit

theorem spot_none {w : World} {b : Addr} {v : Value} (h : w.cell? (b.add 0) = some v) : b.spot = none := by
  have hs := World.cell?_spot h
  simpa [Addr.add] using hs

theorem open_ilist {H : Type} {enc : TypeId × Value → H} {P : Program} {w : World} {base : Nat} {sp : Nat → Bool} {held : Bool} {t e : TypeId} {c : Value} {fuel : Nat} {x : DataW H × List MemPlace}
    (ht : P.underlying t = some (.slice e)) (he : P.underlying e = some (.int .i64)) (hc : P.cellsOf e = 1) (h : DataW.trod enc P w base sp held fuel t [c] = some x) :
    ∃ (a : Option Addr) (n cap : Nat) (f : Nat → Int), c = .slice a n cap ∧ n ≤ maxLen ∧ ∀ i, i < n → IntAt w a i (f i) := by
  rcases open_ints ht he hc h with ⟨hcs, _⟩ | ⟨b, l, cap, zs, hcs, _, hl, hm, hz, _, hcell, hwz⟩
  · simp at hcs
    exact ⟨none, 0, 0, fun _ => 0, hcs, by unfold maxLen; omega, fun i hi => absurd hi (by omega)⟩
  · simp at hcs
    have hlz : l ≤ zs.length := by rw [hz]; split <;> omega
    refine ⟨some b, l, cap, fun i => zs.getD i 0, hcs, by omega, fun i hi => ?_⟩
    have h0 := spot_none (hcell 0 (by omega))
    obtain ⟨bb, off, spot⟩ := b
    dsimp only at h0
    subst h0
    have hi' := hcell i (by omega)
    have hadd : (⟨bb, off, none⟩ : Addr).add i = ⟨bb, off + i, none⟩ := by unfold Addr.add; split <;> simp_all
    rw [hadd] at hi'
    exact ⟨bb, off, rfl, hi'⟩

theorem open_plist {H : Type} {enc : TypeId × Value → H} {P : Program} {w : World} {base : Nat} {sp : Nat → Bool} {held : Bool} {t e : TypeId} {f0 f1 : Field} {c : Value} {fuel : Nat} {x : DataW H × List MemPlace}
    (ht : P.underlying t = some (.slice e)) (he : P.underlying e = some (.struct #[f0, f1])) (ce : P.cellsOf e = 2) (o0 : f0.offset = 0) (o1 : f1.offset = 1) (c0 : P.cellsOf f0.type = 1) (c1 : P.cellsOf f1.type = 1)
    (k0 : P.underlying f0.type = some (.int .i64)) (k1 : P.underlying f1.type = some (.int .i64))
    (h : DataW.trod enc P w base sp held fuel t [c] = some x) :
    ∃ (a : Option Addr) (n cap : Nat) (f : Nat → Int × Int), c = .slice a n cap ∧ n ≤ maxLen ∧ ∀ i, i < n → PtArg w a i (f i) := by
  rcases Go.Deep.open_slice_pairs ht he ce o0 o1 c0 c1 h with ⟨hcs, _⟩ | ⟨b, len, cap, m, q, V0, V1, D0, D1, P0, P1, hcs, _, hl, hm, hmm, _, hx⟩
  · simp at hcs
    subst hcs
    obtain ⟨f, h1, h2⟩ := open_points ht he ce o0 o1 c0 c1 k0 k1 h
    exact ⟨_, _, _, f, rfl, h1, h2⟩
  · simp at hcs
    subst hcs
    obtain ⟨f, h1, h2⟩ := open_points ht he ce o0 o1 c0 c1 k0 k1 h
    exact ⟨_, _, _, f, rfl, h1, h2⟩

theorem open_path {H : Type} {enc : TypeId × Value → H} {P : Program} {w : World} {r : Reach} {base b0 : Nat} {sp : Nat → Bool} {held : Bool} {t t0 t1 e0 e1 : TypeId} {f0 f1 g0 g1 : Field} {v : Value} {d : DataW H} {p : List MemPlace}
    (hs : P.underlying t = some (.struct #[f0, f1])) (hf : [f0, f1].map (fun f => (f.offset, f.type)) = [(0, t0), (1, t1)]) (hc0 : P.cellsOf t0 = 1) (hc1 : P.cellsOf t1 = 1) (hC : P.cellsOf t = 2)
    (s0 : P.underlying t0 = some (.slice e0)) (s1 : P.underlying t1 = some (.slice e1)) (i0 : P.underlying e0 = some (.int .i64)) (ce0 : P.cellsOf e0 = 1)
    (he : P.underlying e1 = some (.struct #[g0, g1])) (ce : P.cellsOf e1 = 2) (o0 : g0.offset = 0) (o1 : g1.offset = 1) (c0 : P.cellsOf g0.type = 1) (c1 : P.cellsOf g1.type = 1) (k0 : P.underlying g0.type = some (.int .i64)) (k1 : P.underlying g1.type = some (.int .i64))
    (hv : Value.okWide P w r b0 t v) (h : DataW.Trod enc P w base sp held t v d p) :
    ∃ (a : Option Addr) (n c : Nat) (vf : Nat → Int) (b : Option Addr) (m d : Nat) (pf : Nat → Int × Int), v = .agg #[.slice a n c, .slice b m d] ∧ n ≤ maxLen ∧ (∀ i, i < n → IntAt w a i (vf i)) ∧ m ≤ maxLen ∧ ∀ i, i < m → PtArg w b i (pf i) := by
  obtain ⟨cs, rfl, hsz⟩ := okWide_struct hs hv
  obtain ⟨x0, x1, rfl⟩ := array_2 (hsz.trans hC)
  obtain ⟨fuel, hh⟩ := h
  obtain ⟨xs, m', _, _, _, hl, hx⟩ := DataW.trod_struct hs hh
  have hl' : xs.length = 2 := hl
  simp only [List.map_cons, List.map_nil, List.cons.injEq, Prod.mk.injEq, and_true] at hf
  obtain ⟨⟨q0, r0⟩, ⟨q1, r1⟩⟩ := hf
  have y0 := hx 0 f0 rfl
  rw [q0, r0, hc0, List.getElem?_eq_getElem (by omega)] at y0
  have y1 := hx 1 f1 rfl
  rw [q1, r1, hc1, List.getElem?_eq_getElem (by omega)] at y1
  simp [Value.cells] at y0 y1
  obtain ⟨a, n, c, vf, rfl, h1, h2⟩ := open_ilist s0 i0 ce0 y0
  obtain ⟨b, m, d, pf, rfl, h3, h4⟩ := open_plist s1 he ce o0 o1 c0 c1 k0 k1 y1
  exact ⟨a, n, c, vf, b, m, d, pf, rfl, h1, h2, h3, h4⟩
end Go.Proofs.YthelfgippiimiabGreat

/-
  Masks that came in: their cells written out.
-/
namespace Go.Proofs.YthelfgippiimiabGreat
open Go.ChangeShapes Go.WideShapes Go.RowKit

theorem array_5 {α : Type} {cs : Array α} (h : cs.size = 5) : ∃ c0 c1 c2 c3 c4, cs = #[c0, c1, c2, c3, c4] := by
  obtain ⟨l⟩ := cs
  match l, h with
  | [c0, c1, c2, c3, c4], _ => exact ⟨c0, c1, c2, c3, c4, rfl⟩

theorem open_box {H : Type} {enc : TypeId × Value → H} {P : Program} {w : World} {base : Nat} {sp : Nat → Bool} {held : Bool} {t e : TypeId} {f0 f1 f2 f3 : Field} {c0 c1 c2 c3 : Value} {fuel : Nat} {x : DataW H × List MemPlace}
    (hs : P.underlying t = some (.struct #[f0, f1, f2, f3])) (hf : [f0, f1, f2, f3].map (fun f => (f.offset, f.type)) = [(0, e), (1, e), (2, e), (3, e)]) (he : P.underlying e = some (.int .i64)) (hce : P.cellsOf e = 1)
    (h : DataW.trod enc P w base sp held fuel t [c0, c1, c2, c3] = some x) :
    ∃ a0 a1 a2 a3 : Int, c0 = .int .i64 a0 ∧ c1 = .int .i64 a1 ∧ c2 = .int .i64 a2 ∧ c3 = .int .i64 a3 ∧ (Lit.int .i64 a0).wf = true ∧ (Lit.int .i64 a1).wf = true ∧ (Lit.int .i64 a2).wf = true ∧ (Lit.int .i64 a3).wf = true := by
  obtain ⟨xs, m, _, _, _, hl, hx⟩ := DataW.trod_struct hs h
  have hl' : xs.length = 4 := hl
  simp only [List.map_cons, List.map_nil, List.cons.injEq, Prod.mk.injEq, and_true] at hf
  obtain ⟨⟨o0, t0⟩, ⟨o1, t1⟩, ⟨o2, t2⟩, ⟨o3, t3⟩⟩ := hf
  have g0 := hx 0 f0 rfl
  rw [o0, t0, hce, List.getElem?_eq_getElem (by omega)] at g0
  obtain ⟨z0, e0, _, w0⟩ := DataW.trod_int he g0
  simp at e0
  have g1 := hx 1 f1 rfl
  rw [o1, t1, hce, List.getElem?_eq_getElem (by omega)] at g1
  obtain ⟨z1, e1, _, w1⟩ := DataW.trod_int he g1
  simp at e1
  have g2 := hx 2 f2 rfl
  rw [o2, t2, hce, List.getElem?_eq_getElem (by omega)] at g2
  obtain ⟨z2, e2, _, w2⟩ := DataW.trod_int he g2
  simp at e2
  have g3 := hx 3 f3 rfl
  rw [o3, t3, hce, List.getElem?_eq_getElem (by omega)] at g3
  obtain ⟨z3, e3, _, w3⟩ := DataW.trod_int he g3
  simp at e3
  exact ⟨z0, z1, z2, z3, e0, e1, e2, e3, w0, w1, w2, w3⟩

theorem open_mask {H : Type} {enc : TypeId × Value → H} {P : Program} {w : World} {r : Reach} {base b0 : Nat} {sp : Nat → Bool} {held : Bool} {t tb ts e e0 : TypeId} {f0 f1 g0 g1 g2 g3 : Field} {v : Value} {d : DataW H} {p : List MemPlace}
    (hs : P.underlying t = some (.struct #[f0, f1])) (hf : [f0, f1].map (fun f => (f.offset, f.type)) = [(0, tb), (4, ts)]) (hc0 : P.cellsOf tb = 4) (hc1 : P.cellsOf ts = 1) (hC : P.cellsOf t = 5)
    (hb : P.underlying tb = some (.struct #[g0, g1, g2, g3])) (hg : [g0, g1, g2, g3].map (fun f => (f.offset, f.type)) = [(0, e), (1, e), (2, e), (3, e)]) (he : P.underlying e = some (.int .i64)) (hce : P.cellsOf e = 1)
    (hl : P.underlying ts = some (.slice e0)) (i0 : P.underlying e0 = some (.int .i64)) (ce0 : P.cellsOf e0 = 1)
    (hv : Value.okWide P w r b0 t v) (h : DataW.Trod enc P w base sp held t v d p) :
    ∃ (x0 y0 x1 y1 : Int) (a : Option Addr) (n c : Nat) (f : Nat → Int), v = .agg #[.int .i64 x0, .int .i64 y0, .int .i64 x1, .int .i64 y1, .slice a n c] ∧ n ≤ maxLen ∧ (∀ i, i < n → IntAt w a i (f i)) ∧ (Lit.int .i64 x0).wf = true ∧ (Lit.int .i64 y0).wf = true ∧ (Lit.int .i64 x1).wf = true ∧ (Lit.int .i64 y1).wf = true := by
  obtain ⟨cs, rfl, hsz⟩ := okWide_struct hs hv
  obtain ⟨c0, c1, c2, c3, c4, rfl⟩ := array_5 (hsz.trans hC)
  obtain ⟨fuel, hh⟩ := h
  obtain ⟨xs, m', _, _, _, hl', hx⟩ := DataW.trod_struct hs hh
  have hl2 : xs.length = 2 := hl'
  simp only [List.map_cons, List.map_nil, List.cons.injEq, Prod.mk.injEq, and_true] at hf
  obtain ⟨⟨q0, r0⟩, ⟨q1, r1⟩⟩ := hf
  have y0 := hx 0 f0 rfl
  rw [q0, r0, hc0, List.getElem?_eq_getElem (by omega)] at y0
  have y1 := hx 1 f1 rfl
  rw [q1, r1, hc1, List.getElem?_eq_getElem (by omega)] at y1
  simp [Value.cells] at y0 y1
  obtain ⟨z0, z1, z2, z3, rfl, rfl, rfl, rfl, w0, w1, w2, w3⟩ := open_box hb hg he hce y0
  obtain ⟨a, n, c, vf, rfl, h1, h2⟩ := open_ilist hl i0 ce0 y1
  exact ⟨z0, z1, z2, z3, a, n, c, vf, rfl, h1, h2, w0, w1, w2, w3⟩
end Go.Proofs.YthelfgippiimiabGreat

/-
  Paints that came in: their cells written out.
-/
namespace Go.Proofs.YthelfgippiimiabGreat
open Go.ChangeShapes Go.WideShapes

theorem array_13 {α : Type} {cs : Array α} (h : cs.size = 13) : ∃ c0 c1 c2 c3 c4 c5 c6 c7 c8 c9 c10 c11 c12, cs = #[c0, c1, c2, c3, c4, c5, c6, c7, c8, c9, c10, c11, c12] := by
  obtain ⟨l⟩ := cs
  match l, h with
  | [c0, c1, c2, c3, c4, c5, c6, c7, c8, c9, c10, c11, c12], _ => exact ⟨c0, c1, c2, c3, c4, c5, c6, c7, c8, c9, c10, c11, c12, rfl⟩

theorem open_quad {H : Type} {enc : TypeId × Value → H} {P : Program} {w : World} {base : Nat} {sp : Nat → Bool} {held : Bool} {t e : TypeId} {f0 f1 f2 f3 : Field} {c0 c1 c2 c3 : Value} {fuel : Nat} {x : DataW H × List MemPlace}
    (hs : P.underlying t = some (.struct #[f0, f1, f2, f3])) (hf : [f0, f1, f2, f3].map (fun f => (f.offset, f.type)) = [(0, e), (1, e), (2, e), (3, e)]) (he : P.underlying e = some (.int .i64)) (hce : P.cellsOf e = 1)
    (h : DataW.trod enc P w base sp held fuel t [c0, c1, c2, c3] = some x) :
    ∃ a0 a1 a2 a3 : Int, c0 = .int .i64 a0 ∧ c1 = .int .i64 a1 ∧ c2 = .int .i64 a2 ∧ c3 = .int .i64 a3 ∧ (Lit.int .i64 a0).wf = true ∧ (Lit.int .i64 a1).wf = true ∧ (Lit.int .i64 a2).wf = true ∧ (Lit.int .i64 a3).wf = true := by
  obtain ⟨xs, m, _, _, _, hl, hx⟩ := DataW.trod_struct hs h
  have hl' : xs.length = 4 := hl
  simp only [List.map_cons, List.map_nil, List.cons.injEq, Prod.mk.injEq, and_true] at hf
  obtain ⟨⟨o0, t0⟩, ⟨o1, t1⟩, ⟨o2, t2⟩, ⟨o3, t3⟩⟩ := hf
  have g0 := hx 0 f0 rfl
  rw [o0, t0, hce, List.getElem?_eq_getElem (by omega)] at g0
  obtain ⟨z0, e0, _, w0⟩ := DataW.trod_int he g0
  simp at e0
  have g1 := hx 1 f1 rfl
  rw [o1, t1, hce, List.getElem?_eq_getElem (by omega)] at g1
  obtain ⟨z1, e1, _, w1⟩ := DataW.trod_int he g1
  simp at e1
  have g2 := hx 2 f2 rfl
  rw [o2, t2, hce, List.getElem?_eq_getElem (by omega)] at g2
  obtain ⟨z2, e2, _, w2⟩ := DataW.trod_int he g2
  simp at e2
  have g3 := hx 3 f3 rfl
  rw [o3, t3, hce, List.getElem?_eq_getElem (by omega)] at g3
  obtain ⟨z3, e3, _, w3⟩ := DataW.trod_int he g3
  simp at e3
  exact ⟨z0, z1, z2, z3, e0, e1, e2, e3, w0, w1, w2, w3⟩

theorem open_pair {H : Type} {enc : TypeId × Value → H} {P : Program} {w : World} {base : Nat} {sp : Nat → Bool} {held : Bool} {t e : TypeId} {f0 f1 : Field} {c0 c1 : Value} {fuel : Nat} {x : DataW H × List MemPlace}
    (hs : P.underlying t = some (.struct #[f0, f1])) (hf : [f0, f1].map (fun f => (f.offset, f.type)) = [(0, e), (1, e)]) (he : P.underlying e = some (.int .i64)) (hce : P.cellsOf e = 1)
    (h : DataW.trod enc P w base sp held fuel t [c0, c1] = some x) :
    ∃ a0 a1 : Int, c0 = .int .i64 a0 ∧ c1 = .int .i64 a1 ∧ (Lit.int .i64 a0).wf = true ∧ (Lit.int .i64 a1).wf = true := by
  obtain ⟨xs, m, _, _, _, hl, hx⟩ := DataW.trod_struct hs h
  have hl' : xs.length = 2 := hl
  simp only [List.map_cons, List.map_nil, List.cons.injEq, Prod.mk.injEq, and_true] at hf
  obtain ⟨⟨o0, t0⟩, ⟨o1, t1⟩⟩ := hf
  have g0 := hx 0 f0 rfl
  rw [o0, t0, hce, List.getElem?_eq_getElem (by omega)] at g0
  obtain ⟨z0, e0, _, w0⟩ := DataW.trod_int he g0
  simp at e0
  have g1 := hx 1 f1 rfl
  rw [o1, t1, hce, List.getElem?_eq_getElem (by omega)] at g1
  obtain ⟨z1, e1, _, w1⟩ := DataW.trod_int he g1
  simp at e1
  exact ⟨z0, z1, e0, e1, w0, w1⟩

theorem open_paint {H : Type} {enc : TypeId × Value → H} {P : Program} {w : World} {r : Reach} {base b0 : Nat} {sp : Nat → Bool} {held : Bool} {t tc tp e : TypeId} {f0 f1 f2 f3 f4 g0 g1 g2 g3 h0 h1 : Field} {v : Value} {d : DataW H} {p : List MemPlace}
    (hs : P.underlying t = some (.struct #[f0, f1, f2, f3, f4])) (hf : [f0, f1, f2, f3, f4].map (fun f => (f.offset, f.type)) = [(0, e), (1, tc), (5, tc), (9, tp), (11, tp)]) (hcc : P.cellsOf tc = 4) (hcp : P.cellsOf tp = 2) (hC : P.cellsOf t = 13)
    (hb : P.underlying tc = some (.struct #[g0, g1, g2, g3])) (hg : [g0, g1, g2, g3].map (fun f => (f.offset, f.type)) = [(0, e), (1, e), (2, e), (3, e)])
    (hb2 : P.underlying tp = some (.struct #[h0, h1])) (hg2 : [h0, h1].map (fun f => (f.offset, f.type)) = [(0, e), (1, e)]) (he : P.underlying e = some (.int .i64)) (hce : P.cellsOf e = 1)
    (hv : Value.okWide P w r b0 t v) (h : DataW.Trod enc P w base sp held t v d p) :
    ∃ a0 a1 a2 a3 a4 a5 a6 a7 a8 a9 a10 a11 a12 : Int, v = .agg #[.int .i64 a0, .int .i64 a1, .int .i64 a2, .int .i64 a3, .int .i64 a4, .int .i64 a5, .int .i64 a6, .int .i64 a7, .int .i64 a8, .int .i64 a9, .int .i64 a10, .int .i64 a11, .int .i64 a12] ∧ (Lit.int .i64 a0).wf = true ∧ (Lit.int .i64 a1).wf = true ∧ (Lit.int .i64 a2).wf = true ∧ (Lit.int .i64 a3).wf = true ∧ (Lit.int .i64 a4).wf = true ∧ (Lit.int .i64 a5).wf = true ∧ (Lit.int .i64 a6).wf = true ∧ (Lit.int .i64 a7).wf = true ∧ (Lit.int .i64 a8).wf = true ∧ (Lit.int .i64 a9).wf = true ∧ (Lit.int .i64 a10).wf = true ∧ (Lit.int .i64 a11).wf = true ∧ (Lit.int .i64 a12).wf = true := by
  obtain ⟨cs, rfl, hsz⟩ := okWide_struct hs hv
  obtain ⟨c0, c1, c2, c3, c4, c5, c6, c7, c8, c9, c10, c11, c12, rfl⟩ := array_13 (hsz.trans hC)
  obtain ⟨fuel, hh⟩ := h
  obtain ⟨xs, m', _, _, _, hl', hx⟩ := DataW.trod_struct hs hh
  have hl2 : xs.length = 5 := hl'
  simp only [List.map_cons, List.map_nil, List.cons.injEq, Prod.mk.injEq, and_true] at hf
  obtain ⟨⟨q0, r0⟩, ⟨q1, r1⟩, ⟨q2, r2⟩, ⟨q3, r3⟩, ⟨q4, r4⟩⟩ := hf
  have y0 := hx 0 f0 rfl
  rw [q0, r0, hce, List.getElem?_eq_getElem (by omega)] at y0
  obtain ⟨z0, e0, _, w0⟩ := DataW.trod_int he y0
  simp [Value.cells] at e0
  have y1 := hx 1 f1 rfl
  rw [q1, r1, hcc, List.getElem?_eq_getElem (by omega)] at y1
  have y2 := hx 2 f2 rfl
  rw [q2, r2, hcc, List.getElem?_eq_getElem (by omega)] at y2
  have y3 := hx 3 f3 rfl
  rw [q3, r3, hcp, List.getElem?_eq_getElem (by omega)] at y3
  have y4 := hx 4 f4 rfl
  rw [q4, r4, hcp, List.getElem?_eq_getElem (by omega)] at y4
  simp [Value.cells] at y1 y2 y3 y4
  obtain ⟨z1, z2, z3, z4, rfl, rfl, rfl, rfl, w1, w2, w3, w4⟩ := open_quad hb hg he hce y1
  obtain ⟨z5, z6, z7, z8, rfl, rfl, rfl, rfl, w5, w6, w7, w8⟩ := open_quad hb hg he hce y2
  obtain ⟨z9, z10, rfl, rfl, w9, w10⟩ := open_pair hb2 hg2 he hce y3
  obtain ⟨z11, z12, rfl, rfl, w11, w12⟩ := open_pair hb2 hg2 he hce y4
  exact ⟨z0, z1, z2, z3, z4, z5, z6, z7, z8, z9, z10, z11, z12, by rw [e0], w0, w1, w2, w3, w4, w5, w6, w7, w8, w9, w10, w11, w12⟩
end Go.Proofs.YthelfgippiimiabGreat

/-
  Surfaces that came in: their cells written out.
-/
namespace Go.Proofs.YthelfgippiimiabGreat
open Go.ChangeShapes Go.WideShapes Go.RowKit

theorem add_nonec (bb off j : Nat) : (⟨bb, off, none⟩ : Addr).add j = ⟨bb, off + j, none⟩ := by unfold Addr.add; split <;> simp_all

theorem open_cols {H : Type} {enc : TypeId × Value → H} {P : Program} {w : World} {base : Nat} {sp : Nat → Bool} {held : Bool} {t e ei : TypeId} {f0 f1 f2 f3 : Field} {a : Option Addr} {n c fuel : Nat} {x : DataW H × List MemPlace}
    (ht : P.underlying t = some (.slice e)) (he : P.underlying e = some (.struct #[f0, f1, f2, f3])) (hf : [f0, f1, f2, f3].map (fun f => (f.offset, f.type)) = [(0, ei), (1, ei), (2, ei), (3, ei)]) (hei : P.underlying ei = some (.int .i64)) (hce : P.cellsOf ei = 1) (ce : P.cellsOf e = 4)
    (h : DataW.trod enc P w base sp held fuel t [.slice a n c] = some x) :
    ∃ f : Nat → B4, n ≤ maxLen ∧ ∀ i, i < n → ClAt w a i (f i) := by
  rcases Go.Deep.open_slice ht h with ⟨hcs, _⟩ | ⟨b, len, cap, m, q, D, Pl, hcs, _, hl, hm, hmm, _, hx⟩
  · simp at hcs
    obtain ⟨rfl, rfl, rfl⟩ := hcs
    exact ⟨fun _ => ⟨0, 0, 0, 0⟩, by unfold maxLen; omega, fun i hi => absurd hi (by omega)⟩
  · simp at hcs
    obtain ⟨rfl, rfl, rfl⟩ := hcs
    have hnm : n ≤ m := by rw [hmm]; split <;> omega
    have each : ∀ i, i < n → ∃ p : B4, ClAt w (some b) i p := by
      intro i hi
      have hs : b.spot = none := by
        obtain ⟨cs0, h1, _⟩ := hx 0 (by omega)
        rw [ce] at h1
        obtain ⟨_, hlen, hcell⟩ := World.cells?_some h1
        have := World.cell?_spot ((hcell 0 (by omega)).trans (List.getElem?_eq_getElem (by omega)))
        simpa [Addr.add] using this
      obtain ⟨bb, off, spot⟩ := b
      dsimp only at hs
      subst hs
      obtain ⟨cs', h1, h2⟩ := hx i (by omega)
      rw [ce, add_nonec] at h1
      obtain ⟨_, hlen, hcell⟩ := World.cells?_some h1
      match cs', hlen, hcell, h2 with
      | [v0, v1, v2, v3], _, hcell, h2 =>
        obtain ⟨z0, z1, z2, z3, rfl, rfl, rfl, rfl, _⟩ := open_box he hf hei hce h2
        have e0 := hcell 0 (by simp)
        have e1 := hcell 1 (by simp)
        have e2 := hcell 2 (by simp)
        have e3 := hcell 3 (by simp)
        rw [add_nonec] at e0 e1 e2 e3
        exact ⟨⟨z0, z1, z2, z3⟩, bb, off, rfl, by simpa using e0, by simpa using e1, by simpa using e2, by simpa using e3⟩
    haveI : Inhabited B4 := ⟨⟨0, 0, 0, 0⟩⟩
    obtain ⟨f, hf⟩ := Go.Deep.choose_lt each
    exact ⟨f, by omega, hf⟩

theorem array_3s {α : Type} {cs : Array α} (h : cs.size = 3) : ∃ c0 c1 c2, cs = #[c0, c1, c2] := by
  obtain ⟨l⟩ := cs
  match l, h with
  | [c0, c1, c2], _ => exact ⟨c0, c1, c2, rfl⟩

theorem open_surface {H : Type} {enc : TypeId × Value → H} {P : Program} {w : World} {r : Reach} {base b0 : Nat} {sp : Nat → Bool} {held : Bool} {t ts e ec : TypeId} {f0 f1 f2 g0 g1 g2 g3 : Field} {v : Value} {d : DataW H} {p : List MemPlace}
    (hs : P.underlying t = some (.struct #[f0, f1, f2])) (hf : [f0, f1, f2].map (fun f => (f.offset, f.type)) = [(0, e), (1, e), (2, ts)]) (hce : P.cellsOf e = 1) (hc1 : P.cellsOf ts = 1) (hC : P.cellsOf t = 3)
    (he : P.underlying e = some (.int .i64)) (hl : P.underlying ts = some (.slice ec))
    (hb : P.underlying ec = some (.struct #[g0, g1, g2, g3])) (hg : [g0, g1, g2, g3].map (fun f => (f.offset, f.type)) = [(0, e), (1, e), (2, e), (3, e)]) (hcc : P.cellsOf ec = 4)
    (hv : Value.okWide P w r b0 t v) (h : DataW.Trod enc P w base sp held t v d p) :
    ∃ (x y : Int) (a : Option Addr) (n c : Nat) (f : Nat → B4), v = .agg #[.int .i64 x, .int .i64 y, .slice a n c] ∧ n ≤ maxLen ∧ (∀ i, i < n → ClAt w a i (f i)) ∧ (Lit.int .i64 x).wf = true ∧ (Lit.int .i64 y).wf = true := by
  obtain ⟨cs, rfl, hsz⟩ := okWide_struct hs hv
  obtain ⟨c0, c1, c2, rfl⟩ := array_3s (hsz.trans hC)
  obtain ⟨fuel, hh⟩ := h
  obtain ⟨xs, m', _, _, _, hl', hx⟩ := DataW.trod_struct hs hh
  have hl2 : xs.length = 3 := hl'
  simp only [List.map_cons, List.map_nil, List.cons.injEq, Prod.mk.injEq, and_true] at hf
  obtain ⟨⟨q0, r0⟩, ⟨q1, r1⟩, ⟨q2, r2⟩⟩ := hf
  have y0 := hx 0 f0 rfl
  rw [q0, r0, hce, List.getElem?_eq_getElem (by omega)] at y0
  have y1 := hx 1 f1 rfl
  rw [q1, r1, hce, List.getElem?_eq_getElem (by omega)] at y1
  have y2 := hx 2 f2 rfl
  rw [q2, r2, hc1, List.getElem?_eq_getElem (by omega)] at y2
  simp [Value.cells] at y0 y1 y2
  obtain ⟨z0, e0, _, w0⟩ := DataW.trod_int he y0
  obtain ⟨z1, e1, _, w1⟩ := DataW.trod_int he y1
  simp at e0 e1
  subst e0 e1
  rcases Go.Deep.open_slice hl y2 with ⟨hcs, _⟩ | ⟨b, len, cap, m, q, D, Pl, hcs, _⟩
  · simp at hcs
    subst hcs
    obtain ⟨f, hm, H⟩ := open_cols hl hb hg he hce hcc y2
    exact ⟨z0, z1, _, _, _, f, rfl, hm, H, w0, w1⟩
  · simp at hcs
    subst hcs
    obtain ⟨f, hm, H⟩ := open_cols hl hb hg he hce hcc y2
    exact ⟨z0, z1, _, _, _, f, rfl, hm, H, w0, w1⟩
end Go.Proofs.YthelfgippiimiabGreat
