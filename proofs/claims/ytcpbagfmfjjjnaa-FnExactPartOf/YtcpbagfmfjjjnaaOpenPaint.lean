/-
  Paints that came in: their cells written out.
-/
import Derived.Test.YtcpbagfmfjjjnaaOpenAgg
namespace Go.Proofs.Ytcpbagfmfjjjnaa
open Go.ChangeShapes Go.WideShapes

theorem array_13 {α : Type} {cs : Array α} (h : cs.size = 13) : ∃ c0 c1 c2 c3 c4 c5 c6 c7 c8 c9 c10 c11 c12, cs = #[c0, c1, c2, c3, c4, c5, c6, c7, c8, c9, c10, c11, c12] := by
  obtain ⟨l⟩ := cs
  match l, h with
  | [c0, c1, c2, c3, c4, c5, c6, c7, c8, c9, c10, c11, c12], _ => exact ⟨c0, c1, c2, c3, c4, c5, c6, c7, c8, c9, c10, c11, c12, rfl⟩

theorem open_quad {H : Type} {enc : TypeId × Value → H} {P : Program} {w : World} {base : Nat} {sp : Nat → Bool} {held : Bool} {t e : TypeId} {f0 f1 f2 f3 : Field} {c0 c1 c2 c3 : Value} {fuel : Nat} {x : DataW H × List MemPlace}
    (hs : P.underlying t = some (.struct #[f0, f1, f2, f3])) (hf : [f0, f1, f2, f3].map (fun f => (f.offset, f.type)) = [(0, e), (1, e), (2, e), (3, e)]) (he : P.underlying e = some (.int .i64)) (hce : P.cellsOf e = 1)
    (h : DataW.trod enc P w base sp held fuel t [c0, c1, c2, c3] = some x) :
    ∃ a0 a1 a2 a3 : Int, c0 = .int .i64 a0 ∧ c1 = .int .i64 a1 ∧ c2 = .int .i64 a2 ∧ c3 = .int .i64 a3 ∧ (Lit.int .i64 a0).wf = true ∧ (Lit.int .i64 a1).wf = true ∧ (Lit.int .i64 a2).wf = true ∧ (Lit.int .i64 a3).wf = true := by
  obtain ⟨xs, m, _, _, _, hl, hx⟩ := DataW.trod_struct hs h
  have hl' : xs.length = 4 := hl
  simp only [List.map_cons, List.map_nil, List.cons.injEq, Prod.mk.injEq, and_true] at hf
  obtain ⟨⟨o0, t0⟩, ⟨o1, t1⟩, ⟨o2, t2⟩, ⟨o3, t3⟩⟩ := hf
  have g0 := hx 0 f0 rfl
  rw [o0, t0, hce, List.getElem?_eq_getElem (by omega)] at g0
  obtain ⟨z0, e0, _, w0⟩ := DataW.trod_int he g0
  simp at e0
  have g1 := hx 1 f1 rfl
  rw [o1, t1, hce, List.getElem?_eq_getElem (by omega)] at g1
  obtain ⟨z1, e1, _, w1⟩ := DataW.trod_int he g1
  simp at e1
  have g2 := hx 2 f2 rfl
  rw [o2, t2, hce, List.getElem?_eq_getElem (by omega)] at g2
  obtain ⟨z2, e2, _, w2⟩ := DataW.trod_int he g2
  simp at e2
  have g3 := hx 3 f3 rfl
  rw [o3, t3, hce, List.getElem?_eq_getElem (by omega)] at g3
  obtain ⟨z3, e3, _, w3⟩ := DataW.trod_int he g3
  simp at e3
  exact ⟨z0, z1, z2, z3, e0, e1, e2, e3, w0, w1, w2, w3⟩

theorem open_pair {H : Type} {enc : TypeId × Value → H} {P : Program} {w : World} {base : Nat} {sp : Nat → Bool} {held : Bool} {t e : TypeId} {f0 f1 : Field} {c0 c1 : Value} {fuel : Nat} {x : DataW H × List MemPlace}
    (hs : P.underlying t = some (.struct #[f0, f1])) (hf : [f0, f1].map (fun f => (f.offset, f.type)) = [(0, e), (1, e)]) (he : P.underlying e = some (.int .i64)) (hce : P.cellsOf e = 1)
    (h : DataW.trod enc P w base sp held fuel t [c0, c1] = some x) :
    ∃ a0 a1 : Int, c0 = .int .i64 a0 ∧ c1 = .int .i64 a1 ∧ (Lit.int .i64 a0).wf = true ∧ (Lit.int .i64 a1).wf = true := by
  obtain ⟨xs, m, _, _, _, hl, hx⟩ := DataW.trod_struct hs h
  have hl' : xs.length = 2 := hl
  simp only [List.map_cons, List.map_nil, List.cons.injEq, Prod.mk.injEq, and_true] at hf
  obtain ⟨⟨o0, t0⟩, ⟨o1, t1⟩⟩ := hf
  have g0 := hx 0 f0 rfl
  rw [o0, t0, hce, List.getElem?_eq_getElem (by omega)] at g0
  obtain ⟨z0, e0, _, w0⟩ := DataW.trod_int he g0
  simp at e0
  have g1 := hx 1 f1 rfl
  rw [o1, t1, hce, List.getElem?_eq_getElem (by omega)] at g1
  obtain ⟨z1, e1, _, w1⟩ := DataW.trod_int he g1
  simp at e1
  exact ⟨z0, z1, e0, e1, w0, w1⟩

theorem open_paint {H : Type} {enc : TypeId × Value → H} {P : Program} {w : World} {r : Reach} {base b0 : Nat} {sp : Nat → Bool} {held : Bool} {t tc tp e : TypeId} {f0 f1 f2 f3 f4 g0 g1 g2 g3 h0 h1 : Field} {v : Value} {d : DataW H} {p : List MemPlace}
    (hs : P.underlying t = some (.struct #[f0, f1, f2, f3, f4])) (hf : [f0, f1, f2, f3, f4].map (fun f => (f.offset, f.type)) = [(0, e), (1, tc), (5, tc), (9, tp), (11, tp)]) (hcc : P.cellsOf tc = 4) (hcp : P.cellsOf tp = 2) (hC : P.cellsOf t = 13)
    (hb : P.underlying tc = some (.struct #[g0, g1, g2, g3])) (hg : [g0, g1, g2, g3].map (fun f => (f.offset, f.type)) = [(0, e), (1, e), (2, e), (3, e)])
    (hb2 : P.underlying tp = some (.struct #[h0, h1])) (hg2 : [h0, h1].map (fun f => (f.offset, f.type)) = [(0, e), (1, e)]) (he : P.underlying e = some (.int .i64)) (hce : P.cellsOf e = 1)
    (hv : Value.okWide P w r b0 t v) (h : DataW.Trod enc P w base sp held t v d p) :
    ∃ a0 a1 a2 a3 a4 a5 a6 a7 a8 a9 a10 a11 a12 : Int, v = .agg #[.int .i64 a0, .int .i64 a1, .int .i64 a2, .int .i64 a3, .int .i64 a4, .int .i64 a5, .int .i64 a6, .int .i64 a7, .int .i64 a8, .int .i64 a9, .int .i64 a10, .int .i64 a11, .int .i64 a12] ∧ (Lit.int .i64 a0).wf = true ∧ (Lit.int .i64 a1).wf = true ∧ (Lit.int .i64 a2).wf = true ∧ (Lit.int .i64 a3).wf = true ∧ (Lit.int .i64 a4).wf = true ∧ (Lit.int .i64 a5).wf = true ∧ (Lit.int .i64 a6).wf = true ∧ (Lit.int .i64 a7).wf = true ∧ (Lit.int .i64 a8).wf = true ∧ (Lit.int .i64 a9).wf = true ∧ (Lit.int .i64 a10).wf = true ∧ (Lit.int .i64 a11).wf = true ∧ (Lit.int .i64 a12).wf = true := by
  obtain ⟨cs, rfl, hsz⟩ := okWide_struct hs hv
  obtain ⟨c0, c1, c2, c3, c4, c5, c6, c7, c8, c9, c10, c11, c12, rfl⟩ := array_13 (hsz.trans hC)
  obtain ⟨fuel, hh⟩ := h
  obtain ⟨xs, m', _, _, _, hl', hx⟩ := DataW.trod_struct hs hh
  have hl2 : xs.length = 5 := hl'
  simp only [List.map_cons, List.map_nil, List.cons.injEq, Prod.mk.injEq, and_true] at hf
  obtain ⟨⟨q0, r0⟩, ⟨q1, r1⟩, ⟨q2, r2⟩, ⟨q3, r3⟩, ⟨q4, r4⟩⟩ := hf
  have y0 := hx 0 f0 rfl
  rw [q0, r0, hce, List.getElem?_eq_getElem (by omega)] at y0
  obtain ⟨z0, e0, _, w0⟩ := DataW.trod_int he y0
  simp [Value.cells] at e0
  have y1 := hx 1 f1 rfl
  rw [q1, r1, hcc, List.getElem?_eq_getElem (by omega)] at y1
  have y2 := hx 2 f2 rfl
  rw [q2, r2, hcc, List.getElem?_eq_getElem (by omega)] at y2
  have y3 := hx 3 f3 rfl
  rw [q3, r3, hcp, List.getElem?_eq_getElem (by omega)] at y3
  have y4 := hx 4 f4 rfl
  rw [q4, r4, hcp, List.getElem?_eq_getElem (by omega)] at y4
  simp [Value.cells] at y1 y2 y3 y4
  obtain ⟨z1, z2, z3, z4, rfl, rfl, rfl, rfl, w1, w2, w3, w4⟩ := open_quad hb hg he hce y1
  obtain ⟨z5, z6, z7, z8, rfl, rfl, rfl, rfl, w5, w6, w7, w8⟩ := open_quad hb hg he hce y2
  obtain ⟨z9, z10, rfl, rfl, w9, w10⟩ := open_pair hb2 hg2 he hce y3
  obtain ⟨z11, z12, rfl, rfl, w11, w12⟩ := open_pair hb2 hg2 he hce y4
  exact ⟨z0, z1, z2, z3, z4, z5, z6, z7, z8, z9, z10, z11, z12, by rw [e0], w0, w1, w2, w3, w4, w5, w6, w7, w8, w9, w10, w11, w12⟩
end Go.Proofs.Ytcpbagfmfjjjnaa
