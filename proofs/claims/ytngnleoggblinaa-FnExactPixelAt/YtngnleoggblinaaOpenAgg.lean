/-
  Flat structs of whole numbers that came in: their cells written out.
-/
import Derived.Test.YtngnleoggblinaaRows
import Derived.ProofKit
import Derived.OpenShut
import Derived.ChangeArms
namespace Go.Proofs.Ytngnleoggblinaa
open Go.ChangeShapes Go.WideShapes

theorem array_2 {α : Type} {cs : Array α} (h : cs.size = 2) : ∃ c0 c1, cs = #[c0, c1] := by
  obtain ⟨l⟩ := cs
  match l, h with
  | [c0, c1], _ => exact ⟨c0, c1, rfl⟩

theorem open_struct2 {H : Type} {enc : TypeId × Value → H} {P : Program} {w : World} {r : Reach} {base b0 : Nat} {sp : Nat → Bool} {held : Bool} {t e : TypeId} {f0 f1 : Field} {v : Value} {d : DataW H} {p : List MemPlace}
    (hs : P.underlying t = some (.struct #[f0, f1])) (hf : [f0, f1].map (fun f => (f.offset, f.type)) = [(0, e), (1, e)]) (he : P.underlying e = some (.int .i64)) (hce : P.cellsOf e = 1) (hC : P.cellsOf t = 2)
    (hv : Value.okWide P w r b0 t v) (h : DataW.Trod enc P w base sp held t v d p) :
    ∃ a0 a1 : Int, v = .agg #[.int .i64 a0, .int .i64 a1] ∧ (Lit.int .i64 a0).wf = true ∧ (Lit.int .i64 a1).wf = true := by
  obtain ⟨cs, rfl, hsz⟩ := okWide_struct hs hv
  obtain ⟨c0, c1, rfl⟩ := array_2 (hsz.trans hC)
  obtain ⟨fuel, hh⟩ := h
  obtain ⟨xs, m, _, _, _, hl, hx⟩ := DataW.trod_struct hs hh
  have hl' : xs.length = 2 := hl
  simp only [List.map_cons, List.map_nil, List.cons.injEq, Prod.mk.injEq, and_true] at hf
  obtain ⟨⟨o0, t0⟩, ⟨o1, t1⟩⟩ := hf
  have g0 := hx 0 f0 rfl
  rw [o0, t0, hce, List.getElem?_eq_getElem (by omega)] at g0
  obtain ⟨z0, e0, _, w0⟩ := DataW.trod_int he g0
  simp [Value.cells] at e0
  have g1 := hx 1 f1 rfl
  rw [o1, t1, hce, List.getElem?_eq_getElem (by omega)] at g1
  obtain ⟨z1, e1, _, w1⟩ := DataW.trod_int he g1
  simp [Value.cells] at e1
  exact ⟨z0, z1, by rw [e0, e1], w0, w1⟩

theorem array_4 {α : Type} {cs : Array α} (h : cs.size = 4) : ∃ c0 c1 c2 c3, cs = #[c0, c1, c2, c3] := by
  obtain ⟨l⟩ := cs
  match l, h with
  | [c0, c1, c2, c3], _ => exact ⟨c0, c1, c2, c3, rfl⟩

theorem open_struct4 {H : Type} {enc : TypeId × Value → H} {P : Program} {w : World} {r : Reach} {base b0 : Nat} {sp : Nat → Bool} {held : Bool} {t e : TypeId} {f0 f1 f2 f3 : Field} {v : Value} {d : DataW H} {p : List MemPlace}
    (hs : P.underlying t = some (.struct #[f0, f1, f2, f3])) (hf : [f0, f1, f2, f3].map (fun f => (f.offset, f.type)) = [(0, e), (1, e), (2, e), (3, e)]) (he : P.underlying e = some (.int .i64)) (hce : P.cellsOf e = 1) (hC : P.cellsOf t = 4)
    (hv : Value.okWide P w r b0 t v) (h : DataW.Trod enc P w base sp held t v d p) :
    ∃ a0 a1 a2 a3 : Int, v = .agg #[.int .i64 a0, .int .i64 a1, .int .i64 a2, .int .i64 a3] ∧ (Lit.int .i64 a0).wf = true ∧ (Lit.int .i64 a1).wf = true ∧ (Lit.int .i64 a2).wf = true ∧ (Lit.int .i64 a3).wf = true := by
  obtain ⟨cs, rfl, hsz⟩ := okWide_struct hs hv
  obtain ⟨c0, c1, c2, c3, rfl⟩ := array_4 (hsz.trans hC)
  obtain ⟨fuel, hh⟩ := h
  obtain ⟨xs, m, _, _, _, hl, hx⟩ := DataW.trod_struct hs hh
  have hl' : xs.length = 4 := hl
  simp only [List.map_cons, List.map_nil, List.cons.injEq, Prod.mk.injEq, and_true] at hf
  obtain ⟨⟨o0, t0⟩, ⟨o1, t1⟩, ⟨o2, t2⟩, ⟨o3, t3⟩⟩ := hf
  have g0 := hx 0 f0 rfl
  rw [o0, t0, hce, List.getElem?_eq_getElem (by omega)] at g0
  obtain ⟨z0, e0, _, w0⟩ := DataW.trod_int he g0
  simp [Value.cells] at e0
  have g1 := hx 1 f1 rfl
  rw [o1, t1, hce, List.getElem?_eq_getElem (by omega)] at g1
  obtain ⟨z1, e1, _, w1⟩ := DataW.trod_int he g1
  simp [Value.cells] at e1
  have g2 := hx 2 f2 rfl
  rw [o2, t2, hce, List.getElem?_eq_getElem (by omega)] at g2
  obtain ⟨z2, e2, _, w2⟩ := DataW.trod_int he g2
  simp [Value.cells] at e2
  have g3 := hx 3 f3 rfl
  rw [o3, t3, hce, List.getElem?_eq_getElem (by omega)] at g3
  obtain ⟨z3, e3, _, w3⟩ := DataW.trod_int he g3
  simp [Value.cells] at e3
  exact ⟨z0, z1, z2, z3, by rw [e0, e1, e2, e3], w0, w1, w2, w3⟩

theorem array_6 {α : Type} {cs : Array α} (h : cs.size = 6) : ∃ c0 c1 c2 c3 c4 c5, cs = #[c0, c1, c2, c3, c4, c5] := by
  obtain ⟨l⟩ := cs
  match l, h with
  | [c0, c1, c2, c3, c4, c5], _ => exact ⟨c0, c1, c2, c3, c4, c5, rfl⟩

theorem open_struct6 {H : Type} {enc : TypeId × Value → H} {P : Program} {w : World} {r : Reach} {base b0 : Nat} {sp : Nat → Bool} {held : Bool} {t e : TypeId} {f0 f1 f2 f3 f4 f5 : Field} {v : Value} {d : DataW H} {p : List MemPlace}
    (hs : P.underlying t = some (.struct #[f0, f1, f2, f3, f4, f5])) (hf : [f0, f1, f2, f3, f4, f5].map (fun f => (f.offset, f.type)) = [(0, e), (1, e), (2, e), (3, e), (4, e), (5, e)]) (he : P.underlying e = some (.int .i64)) (hce : P.cellsOf e = 1) (hC : P.cellsOf t = 6)
    (hv : Value.okWide P w r b0 t v) (h : DataW.Trod enc P w base sp held t v d p) :
    ∃ a0 a1 a2 a3 a4 a5 : Int, v = .agg #[.int .i64 a0, .int .i64 a1, .int .i64 a2, .int .i64 a3, .int .i64 a4, .int .i64 a5] ∧ (Lit.int .i64 a0).wf = true ∧ (Lit.int .i64 a1).wf = true ∧ (Lit.int .i64 a2).wf = true ∧ (Lit.int .i64 a3).wf = true ∧ (Lit.int .i64 a4).wf = true ∧ (Lit.int .i64 a5).wf = true := by
  obtain ⟨cs, rfl, hsz⟩ := okWide_struct hs hv
  obtain ⟨c0, c1, c2, c3, c4, c5, rfl⟩ := array_6 (hsz.trans hC)
  obtain ⟨fuel, hh⟩ := h
  obtain ⟨xs, m, _, _, _, hl, hx⟩ := DataW.trod_struct hs hh
  have hl' : xs.length = 6 := hl
  simp only [List.map_cons, List.map_nil, List.cons.injEq, Prod.mk.injEq, and_true] at hf
  obtain ⟨⟨o0, t0⟩, ⟨o1, t1⟩, ⟨o2, t2⟩, ⟨o3, t3⟩, ⟨o4, t4⟩, ⟨o5, t5⟩⟩ := hf
  have g0 := hx 0 f0 rfl
  rw [o0, t0, hce, List.getElem?_eq_getElem (by omega)] at g0
  obtain ⟨z0, e0, _, w0⟩ := DataW.trod_int he g0
  simp [Value.cells] at e0
  have g1 := hx 1 f1 rfl
  rw [o1, t1, hce, List.getElem?_eq_getElem (by omega)] at g1
  obtain ⟨z1, e1, _, w1⟩ := DataW.trod_int he g1
  simp [Value.cells] at e1
  have g2 := hx 2 f2 rfl
  rw [o2, t2, hce, List.getElem?_eq_getElem (by omega)] at g2
  obtain ⟨z2, e2, _, w2⟩ := DataW.trod_int he g2
  simp [Value.cells] at e2
  have g3 := hx 3 f3 rfl
  rw [o3, t3, hce, List.getElem?_eq_getElem (by omega)] at g3
  obtain ⟨z3, e3, _, w3⟩ := DataW.trod_int he g3
  simp [Value.cells] at e3
  have g4 := hx 4 f4 rfl
  rw [o4, t4, hce, List.getElem?_eq_getElem (by omega)] at g4
  obtain ⟨z4, e4, _, w4⟩ := DataW.trod_int he g4
  simp [Value.cells] at e4
  have g5 := hx 5 f5 rfl
  rw [o5, t5, hce, List.getElem?_eq_getElem (by omega)] at g5
  obtain ⟨z5, e5, _, w5⟩ := DataW.trod_int he g5
  simp [Value.cells] at e5
  exact ⟨z0, z1, z2, z3, z4, z5, by rw [e0, e1, e2, e3, e4, e5], w0, w1, w2, w3, w4, w5⟩
end Go.Proofs.Ytngnleoggblinaa
