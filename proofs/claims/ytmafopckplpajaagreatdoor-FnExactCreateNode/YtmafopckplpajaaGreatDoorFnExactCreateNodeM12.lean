/-
  ChangeP · ChangeL · ChangeA · ChangeB · CopyS · CopyT: texts of one claim, in one.
-/
import Derived.Test.YtmafopckplpajaaGreatDoorFnExactCreateNodeM9
import Derived.Test.YtmafopckplpajaaGreatDoorFnExactCreateNodeM10
import Derived.Test.YtmafopckplpajaaGreatDoorFnExactCreateNodeM11
import Derived.Test.YtmafopckplpajaaGreatDoorFnExactCreateNodeM4
import Derived.Laws.AppendOwnNone

/-
  Changes: what both sides reckon; guarded loads of nodes.
-/
namespace Go.Proofs.YtmafopckplpajaaGreatDoor
open Go.RowKit
set_option linter.unusedVariables false

/-- A scene and a code that are handed back. -/
def ChRes (w : World) (r : Ending) (w' : World) (c : Int) (n : Nat) (X : Nat → Nd) : Prop := ∃ a cc A, r = .returned (.tuple #[.agg #[.slice a n cc], .int .i64 c]) ∧ SG w' w.heap.size w'.heap.size a n cc X A ∧ Below w.heap.size w w'
noncomputable def createC (X : Nat → Nd) (n : Nat) (x : Nd) : Int :=
  if ¬ (sceneOkB X n = true ∧ nodeOkB x = true) then 1 else if 0 ≤ firstN X x.id n then 3 else if holdB X n x.par = false then 2 else if n = 8 then 4 else if 4 ≤ depthI X n x.par then 5 else 0
noncomputable def changeC (X : Nat → Nd) (n : Nat) (id : Int) : Int := if ¬ sceneOkB X n = true then 1 else if firstN X id n < 0 then 2 else 0
noncomputable def setC16 (X : Nat → Nd) (n : Nat) (x : Nd) : Int :=
  if ¬ (sceneOkB X n = true ∧ nodeOkB x = true) then 1 else if firstN X x.id n < 0 then 2 else if x.gr = false ∧ 0 < (kidsL X n x.id).length then 1 else 0
noncomputable def createN (X : Nat → Nd) (n : Nat) (x : Nd) : Nat := if createC X n x = 0 then n + 1 else n
noncomputable def createX (X : Nat → Nd) (n : Nat) (x : Nd) : Nat → Nd := if createC X n x = 0 then upd X n x else X
theorem errV_is {c : Int} (h : c ≠ 0) : errV c = .iface 130 (.agg #[.int .i64 c]) := if_neg h
theorem errV_nil : errV 0 = .nilIface := if_pos rfl
theorem depth_nn {X : Nat → Nd} {n : Nat} : ∀ (f : Nat) (c id : Int), 0 ≤ c → 0 ≤ depthN X n f c id
  | 0, _, _, _ => by unfold depthN; exact Int.le_refl _
  | f + 1, c, id, h => by
    unfold depthN
    split
    · exact h
    · split
      · exact Int.le_refl _
      · exact depth_nn f (c + 1) _ (by omega)
theorem depth_le {X : Nat → Nd} {n : Nat} : ∀ (f : Nat) (c id : Int), 0 ≤ c → depthN X n f c id ≤ c + f
  | 0, c, _, h => by unfold depthN; omega
  | f + 1, c, id, h => by
    unfold depthN
    split
    · omega
    · split
      · omega
      · have := depth_le (X := X) (n := n) f (c + 1) (X (firstN X id n).toNat).par (by omega); omega
theorem load_own_g {ops : Array Oper} {rest : List Oper} {op : Oper} {a : Act} {w : World} {Q : Exit → Act → World → Prop} (hw : Region.wanted op (yielded ops a.tmps) = true) (y : Operand) (ho : op.op = .load 41 y)
    (b : Nat) (hx : a.eval y = .pointer (some ⟨b, 0, none⟩)) (x : Nd) (s : Na) (t : TypeId) (hc : w.heap[b]? = some (.cells (ndC x s) t (0, 0)))
    (h : wpList Tryz.prog ops Q rest (a.put op.dst (.agg (ndC x s))) w) : wpList Tryz.prog ops Q (op :: rest) a w :=
  wpList_step fun K hK => by
    rw [if_pos hw]
    exact wp_load_mid 41 y ho b 0 hx (ndC x s).toList _ (rowRng hc) Tryz.underlying41 rfl (ndC_infoL x s) (by rw [Array.toArray_toList]; exact hK _ _ h)
structure Wf (X : Nat → Nd) (n : Nat) : Prop where
  id : ∀ i, i < n → (Lit.int .i64 (X i).id).wf = true
  par : ∀ i, i < n → (Lit.int .i64 (X i).par).wf = true
theorem own_ty {w : World} {B e s n b : Nat} {v : Value} {xs : List Value} {cs : Array Value} {t : TypeId} {fz : Nat × Nat} (h : w.ownsRow B e s v n xs) (hb : w.heap[b]? = some (.cells cs t fz)) (ht : t ≠ e) : ∀ k, v.ownBlock = some k → k ≠ b := by
  rcases h.2 with ⟨rfl, _⟩ | ⟨g, cap, cur, rfl, _, hg, _⟩
  · intro k e; cases e
  · intro k e e2
    have e1 : g = k := Option.some.inj e
    subst e1
    subst e2
    rw [hg] at hb
    cases hb
    exact ht rfl
theorem lty_sc (l : Nat) : 26 ≠ lty l := by unfold lty; split <;> decide
/-- A variable of another kind can be written without harm to a scene. -/
theorem SG.setk {u : World} {base T n c b j : Nat} {p : Option Addr} {v : Value} {cs : Array Value} {fz : Nat × Nat} {X : Nat → Nd} {A : Nat → Na} (h : SG u base T p n c X A) (hb : u.heap[b]? = some (.cells cs 26 fz)) : SG (u.setCell ⟨b, j, none⟩ v) base T p n c X A :=
  let ⟨ys, h1, h2⟩ := h.row; ⟨⟨ys, own_setc_ne h1 (own_ty h1 hb (by decide)), h2⟩, fun j hj l hl => let ⟨xs, a1, a2⟩ := h.own j hj l hl; ⟨xs, own_setc_ne a1 (own_ty a1 hb (lty_sc l)), a2⟩, h.apt⟩
end Go.Proofs.YtmafopckplpajaaGreatDoor

/-
  The exact laws of chapter 16, from what the functions of both sides answer. (By changelaw.py.)
-/
namespace Go.Proofs.YtmafopckplpajaaGreatDoor
open Go.RowKit
set_option linter.unusedVariables false

theorem ScV.sg {w : World} {base n c : Nat} {a : Option Addr} {X : Nat → Nd} {A : Nat → Na} (h : ScV w base a n c X A) : SG w base w.heap.size a n c X A := by
  obtain ⟨b, ys, K, lo, rfl, h2, h3, h4, h5⟩ := h
  exact h5.sg h2 h3 h4 h5.top
/-- A node whose lists are one's own, below T. -/
def NdT (w : World) (base T : Nat) (x : Nd) (s : Na) : Prop := NdG w base x s ∧ ∀ l, l < 5 → ∀ k, (lvl x s l).ownBlock = some k → k < T
theorem NdG.ndT {w : World} {base : Nat} {x : Nd} {s : Na} (h : NdG w base x s) : NdT w base w.heap.size x s := ⟨h, fun l hl k e => ((h.own l hl).lt k e).2⟩
theorem NdT.next {w u : World} {base T : Nat} {x : Nd} {s : Na} (h : NdT w base T x s) (hb : Below w.heap.size w u) : NdT u base T x s := ⟨h.1.next hb, h.2⟩
theorem NdT.far {w u : World} {base T b T' : Nat} {x : Nd} {s : Na} (h : NdT w base T x s) (hF : FarB b T' w u) (hd : T ≤ b ∨ T' ≤ base) : NdT u base T x s :=
  ⟨⟨fun l hl => let ⟨xs, a1, a2⟩ := h.1.own l hl; ⟨xs, hF.own a1 (fun k e => by have h1 := h.2 l hl k e; have h2 := (a1.lt k e).1; omega), a2⟩, h.1.inj⟩, h.2⟩
theorem load_lown {ops : Array Oper} {rest : List Oper} {op : Oper} {a : Act} {w : World} {Q : Exit → Act → World → Prop} (hgd : op.guard = none) (y : Operand) (ho : op.op = .load 68 y)
    (b : Nat) (hx : a.eval y = .pointer (some ⟨b, 0, none⟩)) (x : Nd) (s : Na) (t : TypeId) (hc : w.heap[b]? = some (.cells (ndC x s) t (0, 0)))
    (h : wpList Tryz.prog ops Q rest (a.put op.dst (.agg (ndC x s))) w) : wpList Tryz.prog ops Q (op :: rest) a w :=
  load_lnode hgd y ho b 0 hx x s (rowRng hc) h
theorem yields_lnode {ops : Array Oper} {S : World → Prop} {op : Oper} {a : Act} (hw : Region.wanted op (yielded ops a.tmps) = true) (y : Operand) (ho : op.op = .load 68 y)
    (b o : Nat) (hx : a.eval y = .pointer (some ⟨b, o, none⟩)) (x : Nd) (s : Na) (hS : ∀ w, S w → w.rangeAt b o (ndC x s).toList) : YieldsIf Tryz.prog ops S op (.agg (ndC x s)) a := by
  have h := yieldsIf_load_mid (P := Tryz.prog) hw 68 y ho b o hx (ndC x s).toList _ hS Tryz.underlying68 rfl (by rw [Array.length_toList, ndC_size]; exact lnode_size)
  rwa [Array.toArray_toList] at h

set_option maxHeartbeats 4000000 in
theorem markPath_far (v1 v2 : Value) (base n m k : Nat) (hk : k ≤ 1000000000) (hn : n ≤ 1048576) (hm : m ≤ 1048576) (w : World) (h1 : ∃ xs, w.ownsRow base 3 1 v1 n xs) (h2 : ∃ xs, w.ownsRow base 37 2 v2 m xs) :
    Calls Tryz.prog 88 #[.agg #[v1, v2], .int .i64 k] w fun r w' => r = .returned (.int .i64 ((k + n + m * 2 : Nat) : Int)) ∧ ∃ u, Below w.heap.size w u ∧ ∃ u2, u.grownBy u2 v1.ownBlock ∧ u2.grownBy w' v2.ownBlock := by
  obtain ⟨xs, h1⟩ := h1
  obtain ⟨ys, h2⟩ := h2
  obtain ⟨a, c, rfl⟩ := own_form h1
  obtain ⟨b, d, rfl⟩ := own_form h2
  have E1 := hide (fun u zs (hu : u.ownsRow base 3 1 (.slice a n c) n zs) => markIntS_any (.slice a n c) base n k zs (by omega) hn u hu)
  have E2 := hide (fun u zs (hu : u.ownsRow base 37 2 (.slice b m d) m zs) => markPointS_any (.slice b m d) base m (k + n) zs (by omega) hm u hu)
  have hap := own_kind h2 h1 (by decide)
  go_enter Tryz.func88, Tryz.ntmps88
  go_upto_region 1 with fail
  have R := hide (new_row w (.cells #[.slice a n c, .slice b m d] 33))
  have HB := hide (al1_below w (.cells #[.slice a n c, .slice b m d] 33))
  replace h1 := hide (own_below h1 (unhide HB))
  replace h2 := hide (own_below h2 (unhide HB))
  have hlt := hide (show ∀ q, (Value.slice a n c).ownBlock = some q → q ≠ w.heap.size from own_ty (unhide h1) (unhide R) (by decide))
  generalize w.alloc (.cells #[.slice a n c, .slice b m d] 33) = W at R HB h1 h2 ⊢
  obtain ⟨b1, hb1⟩ : ∃ b, Hid (b = w.heap.size) := ⟨_, rfl⟩
  rw [← unhide hb1] at R hlt ⊢
  obtain ⟨c0, c1⟩ := row2 (unhide R)
  go_wp2_with fail
  go_fit (unhide E1 _ _ (unhide h1))
  rintro r u1 ⟨rfl, _, hg⟩
  replace R := hide ((hg.block b1 (heap_lt (unhide R)) (fun e => unhide hlt b1 e.symm rfl)).trans (unhide R))
  replace h2 := hide ((unhide h2).kept hg (by
    cases hk : (Value.slice b m d).ownBlock with
    | none => exact .inl rfl
    | some q => exact .inr (fun e => hap q hk e.symm)))
  replace hg := hide hg
  clear c0 c1 h1
  obtain ⟨c0, c1⟩ := row2 (unhide R)
  go_wp2_with fail
  go_fit (unhide E2 _ _ (unhide h2))
  rintro r u2 ⟨rfl, _, hg2⟩
  replace hg2 := hide hg2
  clear c0 c1
  go_wp2_with fail
  go_ret
  exact ⟨rfl, W, unhide HB, u1, unhide hg, unhide hg2⟩
theorem FarB.more {b T : Nat} {w u v u2 u' : World} {k1 k2 : Option Nat} (h : FarB b T w u) (hb : Below u.heap.size u v) (g1 : v.grownBy u2 k1) (g2 : u2.grownBy u' k2) (h1 : ∀ q, k1 = some q → b ≤ q ∧ q < T) (h2 : ∀ q, k2 = some q → b ≤ q ∧ q < T) : FarB b T w u' :=
  (((h.grown (k := none) ⟨hb.os, hb.tape, hb.output, hb.size, fun q hq _ => hb.block q hq⟩ (fun q e => by cases e)).grown g1 h1).grown g2 h2)

set_option maxHeartbeats 4000000 in
set_option maxRecDepth 100000 in
theorem markNode_far (x : Nd) (s : Na) (hs : x.Small) (base T k : Nat) (hk : k ≤ 100000000) (w : World) (h : NdT w base T x s) :
    Calls Tryz.prog 34 #[.agg (ndC x s), .int .i64 k] w fun r w' => (∃ q : Nat, r = .returned (.int .i64 (q : Int))) ∧ FarB base T w w' := by
  have E1 := hide (fun u hk => markPath_far (.slice s.av x.nv s.cv) (.slice s.ap x.np s.cp) base x.nv x.np k hk hs.nv hs.np u)
  have E2 := hide (fun u zs hk (hu : u.ownsRow base 3 1 (.slice s.ad x.nd s.cd) x.nd zs) => markIntS_any (.slice s.ad x.nd s.cd) base x.nd (k + x.nv + x.np * 2) zs hk hs.nd u hu)
  have E3 := hide (fun u hk => markPath_far (.slice s.bv x.mv s.dv) (.slice s.bp x.mp s.dp) base x.mv x.mp (k + x.nv + x.np * 2 + x.nd) hk hs.mv hs.mp u)
  have b1 := hs.nv
  have b2 := hs.np
  have b3 := hs.nd
  have hO := hide h.1.own
  have hI := hide h.1.inj
  have hT := hide (show ∀ l, l < 5 → ∀ q, (lvl x s l).ownBlock = some q → base ≤ q ∧ q < T from fun l hl q e => ⟨((h.1.own l hl).lt q e).1, h.2 l hl q e⟩)
  have hW := hide (show ∀ l, l < 5 → ∀ q, (lvl x s l).ownBlock = some q → q ≠ w.heap.size from fun l hl q e => Nat.ne_of_lt ((h.1.own l hl).lt q e).2)
  have off := hide (show ∀ l m, l < 5 → m < 5 → l ≠ m → (lvl x s l).ownBlock = none ∨ (lvl x s l).ownBlock ≠ (lvl x s m).ownBlock from fun l m hl hm hne => by
    cases hk : (lvl x s l).ownBlock with
    | none => exact .inl rfl
    | some q => exact .inr (fun e => hne (h.1.inj l m hl hm q hk e.symm)))
  clear h hs
  go_enter Tryz.func34, Tryz.ntmps34
  go_upto_region 1 with fail
  have R := hide (new_row w (.cells (ndC x s) 41))
  have HB := hide (al1_below w (.cells (ndC x s) 41))
  replace hO := hide (fun l hl => (unhide hO l hl).next (unhide HB))
  have HF := hide (show FarB base T w (w.alloc (.cells (ndC x s) 41)) from (FarB.refl base T _).pre (unhide HB))
  generalize w.alloc (.cells (ndC x s) 41) = W at R HB hO HF ⊢
  obtain ⟨bb, hbb⟩ : ∃ b, Hid (b = w.heap.size) := ⟨_, rfl⟩
  rw [← unhide hbb] at R hW ⊢
  have F1 := hide (unhide E1 W (by omega) (let ⟨xs, h1, _⟩ := unhide hO 0 (by omega); ⟨xs, h1⟩) (let ⟨xs, h1, _⟩ := unhide hO 1 (by omega); ⟨xs, h1⟩))
  obtain ⟨c0, c1, c2, c3, c4, c5, c6, c7, c8, c9, c10, c11, c12, c13, c14, c15, c16, c17, c18, c19, c20, c21, c22, c23, c24, c25, c26, c27, c28, c29, c30⟩ := row31 (unhide R)
  go_wp2_with fail
  go_fit (unhide F1)
  rintro r u1 ⟨rfl, v1, hb, v2, g1, g2⟩
  clear c0 c1 c2 c3 c4 c5 c6 c7 c8 c9 c10 c11 c12 c13 c14 c15 c16 c17 c18 c19 c20 c21 c22 c23 c24 c25 c26 c27 c28 c29 c30 F1
  replace HF := hide ((unhide HF).more hb g1 g2 (unhide hT 0 (by omega)) (unhide hT 1 (by omega)))
  have hO2 := hide (show ∀ l, l < 5 → l ≠ 0 → l ≠ 1 → OwnL u1 base x s l from fun l hl n0 n1 => (((unhide hO l hl).next hb).kept g1 (unhide off l 0 hl (by omega) n0)).kept g2 (unhide off l 1 hl (by omega) n1))
  have R1 := hide ((g1.block bb (heap_lt (row_next hb (unhide R))) (fun e => unhide hW 0 (by omega) bb e.symm rfl)).trans (row_next hb (unhide R)))
  replace R := hide ((g2.block bb (heap_lt (unhide R1)) (fun e => unhide hW 1 (by omega) bb e.symm rfl)).trans (unhide R1))
  clear hO hb g1 g2 R1
  obtain ⟨xs2, o2, _⟩ := unhide hO2 2 (by omega) (by omega) (by omega)
  have F2 := hide (unhide E2 u1 xs2 (by omega) o2)
  obtain ⟨c0, c1, c2, c3, c4, c5, c6, c7, c8, c9, c10, c11, c12, c13, c14, c15, c16, c17, c18, c19, c20, c21, c22, c23, c24, c25, c26, c27, c28, c29, c30⟩ := row31 (unhide R)
  clear o2
  go_wp2_with fail
  go_fit (unhide F2)
  rintro r u2 ⟨rfl, _, g3⟩
  clear c0 c1 c2 c3 c4 c5 c6 c7 c8 c9 c10 c11 c12 c13 c14 c15 c16 c17 c18 c19 c20 c21 c22 c23 c24 c25 c26 c27 c28 c29 c30 F2
  replace HF := hide ((unhide HF).grown g3 (unhide hT 2 (by omega)))
  have hO3 := hide (show ∀ l, l < 5 → l ≠ 0 → l ≠ 1 → l ≠ 2 → OwnL u2 base x s l from fun l hl n0 n1 n2 => (unhide hO2 l hl n0 n1).kept g3 (unhide off l 2 hl (by omega) n2))
  replace R := hide ((g3.block bb (heap_lt (unhide R)) (fun e => unhide hW 2 (by omega) bb e.symm rfl)).trans (unhide R))
  clear hO2 g3
  have F3 := hide (unhide E3 u2 (by omega) (let ⟨xs, h1, _⟩ := unhide hO3 3 (by omega) (by omega) (by omega) (by omega); ⟨xs, h1⟩) (let ⟨xs, h1, _⟩ := unhide hO3 4 (by omega) (by omega) (by omega) (by omega); ⟨xs, h1⟩))
  obtain ⟨c0, c1, c2, c3, c4, c5, c6, c7, c8, c9, c10, c11, c12, c13, c14, c15, c16, c17, c18, c19, c20, c21, c22, c23, c24, c25, c26, c27, c28, c29, c30⟩ := row31 (unhide R)
  go_wp2_with fail
  go_fit (unhide F3)
  rintro r u3 ⟨rfl, v1, hb, v2, g1, g2⟩
  replace HF := hide ((unhide HF).more hb g1 g2 (unhide hT 3 (by omega)) (unhide hT 4 (by omega)))
  clear c0 c1 c2 c3 c4 c5 c6 c7 c8 c9 c10 c11 c12 c13 c14 c15 c16 c17 c18 c19 c20 c21 c22 c23 c24 c25 c26 c27 c28 c29 c30 F3 hb g1 g2
  go_wp2_with fail
  go_ret
  exact ⟨⟨_, rfl⟩, unhide HF⟩
end Go.Proofs.YtmafopckplpajaaGreatDoor

/-
  The program's mayChange, mayCreate, maySet.
-/
namespace Go.Proofs.YtmafopckplpajaaGreatDoor
open Go.RowKit
set_option linter.unusedVariables false

set_option maxHeartbeats 4000000 in
theorem implMayChange_any (X : Nat → Nd) (A : Nat → Na) (ao : Option Addr) (n cp : Nat) (hn : n ≤ 1048576) (hs : ∀ i, i < n → (X i).Small) (hw : Wf X n) (id : Int) (w : World) (P : ∀ i, i < n → NrAt w ao i (X i) (A i)) :
    Calls Tryz.prog 55 #[.agg #[.slice ao n cp], .int .i64 id] w fun r w' => r = .returned (errV (changeC X n id)) ∧ Below w.heap.size w w' := by
  have E1 := hide (fun u => implSceneOk_any X A ao n cp hn hs hw.id hw.par u)
  have E2 := hide (fun u => implNodeAt_any X A ao n cp hn id u)
  replace P := hide P
  clear hs hw
  obtain ⟨C, hC⟩ : ∃ C, Hid (C = errV (changeC X n id)) := ⟨_, rfl⟩
  rw [← unhide hC]
  have hC' := hide (show C = errV (if ¬ sceneOkB X n = true then 1 else if firstN X id n < 0 then 2 else 0) from unhide hC)
  clear hC
  go_enter Tryz.func55, Tryz.ntmps55
  go_upto_region 1 with fail
  have R := hide (new_row w (.cells #[.slice ao n cp] 26))
  have HB := hide (al1_below w (.cells #[.slice ao n cp] 26))
  obtain ⟨b1, hb1⟩ : ∃ z, Hid (z = w.heap.size) := ⟨_, rfl⟩
  rw [← unhide hb1] at R ⊢
  clear hb1
  generalize w.alloc (.cells #[.slice ao n cp] 26) = W at R HB ⊢
  have c0 := row1 (unhide R)
  go_wp2_with fail
  go_fit (unhide E1 _ (fun i hi => (unhide P i hi).next (unhide HB)))
  rintro r u1 ⟨rfl, hb⟩
  replace R := hide (row_next hb (unhide R))
  replace HB := hide (below_two (unhide HB) hb)
  clear hb c0 E1
  cases hok : sceneOkB X n with
  | false =>
    rw [hok, if_pos (by simp)] at hC'
    rw [errV_is (by decide)] at hC'
    clear hok
    go_wp2_with fail
    go_ret
    exact ⟨by rw [unhide hC']; rfl, unhide HB⟩
  | true =>
    rw [hok, if_neg (by simp)] at hC'
    clear hok
    have c0 := row1 (unhide R)
    go_wp2_with fail
    go_fit (unhide E2 _ (fun i hi => (unhide P i hi).next (unhide HB)))
    rintro r u2 ⟨rfl, hb⟩
    replace HB := hide (below_two (unhide HB) hb)
    clear hb c0 E2
    by_cases hf : firstN X id n < 0
    · rw [if_pos hf, errV_is (by decide)] at hC'
      generalize firstN X id n = Z at hf ⊢
      go_wp2_with fail
      go_ret
      exact ⟨by rw [unhide hC']; rfl, unhide HB⟩
    · rw [if_neg hf, errV_nil] at hC'
      generalize firstN X id n = Z at hf ⊢
      go_wp2_with fail
      go_ret
      exact ⟨by rw [unhide hC']; rfl, unhide HB⟩

set_option maxHeartbeats 8000000 in
set_option maxRecDepth 100000 in
theorem implMayCreate_any (X : Nat → Nd) (A : Nat → Na) (ao : Option Addr) (n cp : Nat) (hn : n ≤ 1048576) (hs : ∀ i, i < n → (X i).Small) (hw : Wf X n) (x : Nd) (s : Na) (hx : x.Small) (w1 : (Lit.int .i64 x.id).wf = true) (w2 : (Lit.int .i64 x.par).wf = true) (w : World) (P : ∀ i, i < n → NrAt w ao i (X i) (A i)) (H : NdIn w x s) :
    Calls Tryz.prog 42 #[.agg #[.slice ao n cp], .agg (ndC x s)] w fun r w' => r = .returned (errV (createC X n x)) ∧ Below w.heap.size w w' := by
  have E1 := hide (fun u => implSceneOk_any X A ao n cp hn hs hw.id hw.par u)
  have E2 := hide (fun u => implNodeOk_c x s hx u)
  have E3 := hide (fun u => implStandingOf_any X A ao n cp hn hw.id u)
  have E4 := hide (fun u m => implMayHold_any X A ao n m x.par w2 u)
  have E5 := hide (fun u m => implDepthOfM_any X A ao n m hw.par x.par w2 u)
  have E6 := hide implDepthOk_any
  replace P := hide P
  replace H := hide H
  have hdj := hide (show ScOk X n → depthJ X n x.par = depthI X n x.par from fun h => depthJ_is (.inr (scOk_noZ h)))
  have hnn := hide (show 0 ≤ depthI X n x.par ∧ depthI X n x.par ≤ 9 by have h1 := depth_nn (X := X) (n := n) 9 0 x.par (by omega); have h2 := depth_le (X := X) (n := n) 9 0 x.par (by omega); unfold depthI; omega)
  clear hs hw hx
  obtain ⟨C, hC⟩ : ∃ C, Hid (C = errV (createC X n x)) := ⟨_, rfl⟩
  rw [← unhide hC]
  have hC' := hide (show C = errV (if ¬ (sceneOkB X n = true ∧ nodeOkB x = true) then 1 else if 0 ≤ firstN X x.id n then 3 else if holdB X n x.par = false then 2 else if n = 8 then 4 else if 4 ≤ depthI X n x.par then 5 else 0) from unhide hC)
  clear hC
  go_enter Tryz.func42, Tryz.ntmps42
  go_upto_region 1 with fail
  have R1 := hide (al2_0 w (.cells #[.slice ao n cp] 26) (.cells (ndC x s) 41))
  have R2 := hide (al2_1 w (.cells #[.slice ao n cp] 26) (.cells (ndC x s) 41))
  have HB := hide (al2_below w (.cells #[.slice ao n cp] 26) (.cells (ndC x s) 41))
  obtain ⟨b2, hb2⟩ : ∃ b, Hid (b = w.heap.size + 1) := ⟨_, rfl⟩
  obtain ⟨b1, hb1⟩ : ∃ b, Hid (b = w.heap.size) := ⟨_, rfl⟩
  rw [← unhide hb2] at R2
  rw [← unhide hb1] at R1
  rw [← unhide hb2, ← unhide hb1]
  generalize (w.alloc (.cells #[.slice ao n cp] 26)).alloc (.cells (ndC x s) 41) = W at R1 R2 HB ⊢
  clear hb2 hb1
  have c0 := row1 (unhide R1)
  go_wp2_with fail
  go_fit (unhide E1 _ (fun i hi => (unhide P i hi).next (unhide HB)))
  rintro r u1 ⟨rfl, hb⟩
  replace R1 := hide (row_next hb (unhide R1))
  replace R2 := hide (row_next hb (unhide R2))
  replace HB := hide (below_two (unhide HB) hb)
  clear hb c0 E1
  cases hok : sceneOkB X n with
  | false =>
    rw [hok, if_pos (by simp), errV_is (by decide)] at hC'
    clear hok
    go_wp2_with fail
    go_ret
    exact ⟨by rw [unhide hC']; rfl, unhide HB⟩
  | true =>
    have hS := hide (sceneOk_iff.1 hok)
    rw [hok] at hC'
    clear hok
    go_wp2_with (refine load_own_g (by rfl) _ rfl b2 rfl x s 41 (unhide R2) ?_)
    go_fit (unhide E2 _ ((unhide H).next (unhide HB)))
    rintro r u2 ⟨rfl, hb⟩
    replace R1 := hide (row_next hb (unhide R1))
    replace R2 := hide (row_next hb (unhide R2))
    replace HB := hide (below_two (unhide HB) hb)
    clear hb E2
    cases hok : nodeOkB x with
    | false =>
      rw [hok, if_pos (by simp), errV_is (by decide)] at hC'
      clear hok
      go_wp2_with fail
      go_ret
      exact ⟨by rw [unhide hC']; rfl, unhide HB⟩
    | true =>
      rw [hok, if_neg (by simp)] at hC'
      clear hok
      have c0 := row1 (unhide R1)
      go_wp2_with fail
      go_fit (unhide E3 _ (fun i hi => (unhide P i hi).next (unhide HB)))
      rintro r u3 ⟨m, rfl, S, _, hb⟩
      replace R1 := hide (row_next hb (unhide R1))
      replace R2 := hide (row_next hb (unhide R2))
      replace HB := hide (below_two (unhide HB) hb)
      have F4 := hide (unhide E4 u3 m S (fun i hi => (unhide P i hi).next (unhide HB)))
      have F5 := hide (unhide E5 u3 m S (fun i hi => (unhide P i hi).next (unhide HB)))
      have hl := S.look x.id w1
      clear hb c0 E3 E4 E5 S
      obtain ⟨d0, d1, d2⟩ := headsC (unhide R2)
      by_cases hf : 0 ≤ firstN X x.id n
      · rw [if_pos hf, errV_is (by decide)] at hC'
        have hl2 : ∃ q, stP ao X n x.id = .pointer (some q) := by
          rcases first_is (X := X) (id := x.id) n with ⟨e, _⟩ | ⟨j, hj, e, _, _⟩
          · omega
          · obtain ⟨b, o, hao, _⟩ := unhide P j hj
            rw [hao, stP_at e]
            exact ⟨_, rfl⟩
        obtain ⟨q, hq⟩ := hl2
        rw [hq] at hl
        clear hf hq
        go_wp2_with fail
        go_ret
        exact ⟨by rw [unhide hC']; rfl, unhide HB⟩
      · rw [if_neg hf] at hC'
        rw [stP_none (by omega)] at hl
        clear hf
        go_wp2_with fail
        go_fit (unhide F4)
        rintro r u4 ⟨rfl, hu⟩
        rw [hu]
        clear hu u4 F4
        cases hh : holdB X n x.par with
        | false =>
          rw [hh, if_pos rfl, errV_is (by decide)] at hC'
          clear hh
          go_wp2_with fail
          go_ret
          exact ⟨by rw [unhide hC']; rfl, unhide HB⟩
        | true =>
          rw [hh, if_neg (by decide)] at hC'
          clear hh
          have c0 := row1 (unhide R1)
          by_cases h8 : n = 8
          · rw [if_pos h8, errV_is (by decide)] at hC'
            subst h8
            go_wp2_with fail
            go_ret
            exact ⟨by rw [unhide hC']; rfl, unhide HB⟩
          · rw [if_neg h8] at hC'
            have h8' : ¬ (8 : Int) ≤ (n : Int) := by have := (unhide hS).1; omega
            go_upto_region 10 with fail
            have hjS := unhide hdj (unhide hS)
            obtain ⟨Z, hZ⟩ : ∃ Z, Hid (Z = depthI X n x.par) := ⟨_, rfl⟩
            rw [← unhide hZ] at hjS hC' hnn
            rw [hjS] at F5
            have hwr : IntKind.i64.wrap (Z + 1) = Z + 1 := IntWalk.i64_in _ (by have := unhide hnn; omega)
            have E7 := hide (show ∀ _ : Nat, Calls Tryz.prog 98 #[.map (some m), .int .i64 x.par] u3 fun r w' => r = .returned (.int .i64 (Z + 1)) ∧ w' = u3 from fun _ => by
              go_enter Tryz.func98, Tryz.ntmps98
              go_wp2_with fail
              go_fit (unhide F5)
              rintro r u ⟨rfl, hu⟩
              rw [hu]
              go_wp2_with fail
              go_ret
              exact ⟨rfl, rfl⟩)
            clear hjS hZ F5
            obtain ⟨d0, d1, d2⟩ := headsC (unhide R2)
            go_wp2_with fail
            go_fit (unhide E7 0)
            rintro r u5 ⟨rfl, hu⟩
            rw [hu]
            clear hu u5 E7
            have E8 := hide (unhide E6 (Z + 1) u3)
            by_cases hz : 4 ≤ Z
            · rw [if_pos hz, errV_is (by decide)] at hC'
              rw [show inB (Z + 1) 1 4 = false by unfold inB; simp; omega] at E8
              go_wp2_with fail
              go_fit (unhide E8)
              rintro r u6 ⟨rfl, hu⟩
              rw [hu]
              go_wp2_with fail
              go_ret
              exact ⟨by rw [unhide hC']; rfl, unhide HB⟩
            · rw [if_neg hz, errV_nil] at hC'
              rw [inB_true.2 (by have := unhide hnn; omega)] at E8
              go_wp2_with fail
              go_fit (unhide E8)
              rintro r u6 ⟨rfl, hu⟩
              rw [hu]
              go_wp2_with fail
              go_ret
              exact ⟨by rw [unhide hC']; rfl, unhide HB⟩

theorem ids_len {w w' : World} {r : Ending} {L : List Int} (h : IdsRes w r w' L) : ∃ p cp, r = .returned (.slice p L.length cp) ∧ Below w.heap.size w w' := let ⟨p, cp, h1, _, h3⟩ := h; ⟨p, cp, h1, h3⟩

set_option maxHeartbeats 8000000 in
set_option maxRecDepth 100000 in
theorem implMaySet_any (X : Nat → Nd) (A : Nat → Na) (ao : Option Addr) (n cp : Nat) (hn : n ≤ 1048576) (hs : ∀ i, i < n → (X i).Small) (hw : Wf X n) (x : Nd) (s : Na) (hx : x.Small) (w : World) (P : ∀ i, i < n → NrAt w ao i (X i) (A i)) (H : NdIn w x s) :
    Calls Tryz.prog 72 #[.agg #[.slice ao n cp], .agg (ndC x s)] w fun r w' => r = .returned (errV (setC16 X n x)) ∧ Below w.heap.size w w' := by
  have E1 := hide (fun u => implNodeOk_c x s hx u)
  have E2 := hide (fun u => implMayChange_any X A ao n cp hn hs hw x.id u)
  have E3 := hide (fun u P => (implKidsOf_any X A ao n cp hn x.id u P).mono fun _ _ h => ids_len h)
  have hL := hide (show (kidsL X n x.id).length ≤ n from pick_le X _ n)
  replace P := hide P
  replace H := hide H
  clear hs hw hx
  obtain ⟨C, hC⟩ : ∃ C, Hid (C = errV (setC16 X n x)) := ⟨_, rfl⟩
  rw [← unhide hC]
  have hC' := hide (show C = errV (if ¬ (sceneOkB X n = true ∧ nodeOkB x = true) then 1 else if firstN X x.id n < 0 then 2 else if x.gr = false ∧ 0 < (kidsL X n x.id).length then 1 else 0) from unhide hC)
  clear hC
  go_enter Tryz.func72, Tryz.ntmps72
  go_upto_region 1 with fail
  have R1 := hide (al2_0 w (.cells #[.slice ao n cp] 26) (.cells (ndC x s) 41))
  have R2 := hide (al2_1 w (.cells #[.slice ao n cp] 26) (.cells (ndC x s) 41))
  have HB := hide (al2_below w (.cells #[.slice ao n cp] 26) (.cells (ndC x s) 41))
  obtain ⟨b2, hb2⟩ : ∃ b, Hid (b = w.heap.size + 1) := ⟨_, rfl⟩
  obtain ⟨b1, hb1⟩ : ∃ b, Hid (b = w.heap.size) := ⟨_, rfl⟩
  rw [← unhide hb2] at R2
  rw [← unhide hb1] at R1
  rw [← unhide hb2, ← unhide hb1]
  generalize (w.alloc (.cells #[.slice ao n cp] 26)).alloc (.cells (ndC x s) 41) = W at R1 R2 HB ⊢
  clear hb2 hb1
  go_wp2_with (refine load_own rfl _ rfl b2 rfl x s 41 (unhide R2) ?_)
  go_fit (unhide E1 _ ((unhide H).next (unhide HB)))
  rintro r u1 ⟨rfl, hb⟩
  replace R1 := hide (row_next hb (unhide R1))
  replace R2 := hide (row_next hb (unhide R2))
  replace HB := hide (below_two (unhide HB) hb)
  clear hb E1
  cases hok : nodeOkB x with
  | false =>
    rw [hok, if_pos (by simp), errV_is (by decide)] at hC'
    clear hok
    go_wp2_with fail
    go_ret
    exact ⟨by rw [unhide hC']; rfl, unhide HB⟩
  | true =>
    rw [hok] at hC'
    clear hok
    have c0 := row1 (unhide R1)
    obtain ⟨d0, d1, d2⟩ := headsC (unhide R2)
    have F2 := hide (unhide E2 _ (fun i hi => (unhide P i hi).next (unhide HB)))
    go_wp2_with fail
    go_fit (unhide F2)
    rintro r u2 ⟨rfl, hb⟩
    replace R1 := hide (row_next hb (unhide R1))
    replace R2 := hide (row_next hb (unhide R2))
    replace HB := hide (below_two (unhide HB) hb)
    clear hb c0 d0 d1 d2 E2 F2
    cases hok : sceneOkB X n with
    | false =>
      rw [hok, if_pos (by simp), errV_is (by decide)] at hC'
      rw [show changeC X n x.id = 1 from if_pos (by rw [hok]; simp), errV_is (by decide)]
      clear hok
      go_wp2_with fail
      go_ret
      exact ⟨by rw [unhide hC']; rfl, unhide HB⟩
    | true =>
      rw [hok, if_neg (by simp)] at hC'
      rw [show changeC X n x.id = (if firstN X x.id n < 0 then 2 else 0) from if_neg (by rw [hok]; simp)]
      clear hok
      by_cases hf : firstN X x.id n < 0
      · rw [if_pos hf, errV_is (by decide)] at hC'
        rw [if_pos hf, errV_is (by decide)]
        clear hf
        go_wp2_with fail
        go_ret
        exact ⟨by rw [unhide hC']; rfl, unhide HB⟩
      · rw [if_neg hf] at hC'
        rw [if_neg hf, errV_nil]
        clear hf
        have c0 := row1 (unhide R1)
        obtain ⟨d0, d1, d2⟩ := headsC (unhide R2)
        cases hg : x.gr with
        | true =>
          rw [hg] at d2
          rw [hg, if_neg (by simp), errV_nil] at hC'
          go_wp2_with fail
          go_ret
          exact ⟨by rw [unhide hC']; rfl, unhide HB⟩
        | false =>
          rw [hg] at d2
          rw [hg] at hC'
          have F3 := hide (unhide E3 _ (fun i hi => (unhide P i hi).next (unhide HB)))
          go_wp2_with fail
          go_fit (unhide F3)
          rintro r u3 ⟨p, cp', rfl, hb⟩
          replace HB := hide (below_two (unhide HB) hb)
          clear hb F3 c0 d0 d1 d2 hg
          by_cases h0 : 0 < (kidsL X n x.id).length
          · rw [if_pos (by simp [h0]), errV_is (by decide)] at hC'
            have h0' : (0 : Int) < ((kidsL X n x.id).length : Int) := by omega
            go_wp2_with fail
            go_ret
            exact ⟨by rw [unhide hC']; rfl, unhide HB⟩
          · rw [if_neg (fun e => h0 e.2), errV_nil] at hC'
            have h0' : ¬ (0 : Int) < ((kidsL X n x.id).length : Int) := by omega
            go_wp2_with fail
            go_ret
            exact ⟨by rw [unhide hC']; rfl, unhide HB⟩
end Go.Proofs.YtmafopckplpajaaGreatDoor

/-
  The program's CreateNode. (By changeb.py.)
-/
namespace Go.Proofs.YtmafopckplpajaaGreatDoor
open Go.RowKit
set_option linter.unusedVariables false

set_option maxHeartbeats 16000000 in
set_option maxRecDepth 100000 in
theorem implCreateNode_any (X : Nat → Nd) (A : Nat → Na) (ao : Option Addr) (n cp : Nat) (hn : n ≤ 1048576) (hc : n ≤ cp) (hao : ao = none → cp = 0) (hs : ∀ i, i < n → (X i).Small) (hk : ∀ i, i < n → Caps (X i) (A i)) (hw : Wf X n) (x : Nd) (s : Na) (hx : x.Small) (hxc : Caps x s) (w1 : (Lit.int .i64 x.id).wf = true) (w2 : (Lit.int .i64 x.par).wf = true) (w : World) (P : ∀ i, i < n → NrAt w ao i (X i) (A i)) (H : NdIn w x s) (hg : ErrT w) :
    Calls Tryz.prog 12 #[.agg #[.slice ao n cp], .agg (ndC x s)] w fun r w' => ChRes w r w' (createC X n x) (createN X n x) (createX X n x) := by
  have EC := hide (fun u (hu : Below w.heap.size w u) => implSceneCopy_any X A ao n cp (by omega) hc hao hs hk u (fun i hi => (P i hi).next hu))
  have EM := hide (fun u (hu : Below w.heap.size w u) => implMayCreate_any X A ao n cp (by omega) hs hw x s hx w1 w2 u (fun i hi => (P i hi).next hu) (H.next hu))
  have EN := hide (fun u (hu : Below w.heap.size w u) => implNodeCopy_any x s hx hxc u (H.next hu))
  have EK := hide (implCodeOf_any (createC X n x))
  replace P := hide P
  replace H := hide H
  replace hg := hide hg
  have l0 := hide (show 0 < w.heap.size by
    have h := unhide hg
    unfold ErrT at h
    rcases Nat.eq_zero_or_pos w.heap.size with h0 | h'
    · simp [World.cell?, h0] at h
    · exact h')
  clear hs hk hw hx hxc
  have hM0 := hide (show createC X n x ≠ 0 → createN X n x = n ∧ createX X n x = X from fun h => ⟨if_neg h, if_neg h⟩)
  have hM1 := hide (show createC X n x = 0 → createN X n x = n + 1 ∧ createX X n x = upd X n x from fun h => ⟨if_pos h, if_pos h⟩)
  generalize createN X n x = M at hM0 hM1 ⊢
  generalize createX X n x = Y at hM0 hM1 ⊢
  generalize createC X n x = cc at hM0 hM1 EM EK ⊢
  go_enter Tryz.func12, Tryz.ntmps12
  go_upto_region 1 with fail
  have R1 := hide (al3_0 w (.cells #[.slice ao n cp] 26) (.cells (ndC x s) 41) (.cells #[.slice none 0 0] 26))
  have R2 := hide (al3_1 w (.cells #[.slice ao n cp] 26) (.cells (ndC x s) 41) (.cells #[.slice none 0 0] 26))
  have R4 := hide (al3_2 w (.cells #[.slice ao n cp] 26) (.cells (ndC x s) 41) (.cells #[.slice none 0 0] 26))
  have HB := hide (al3_below w (.cells #[.slice ao n cp] 26) (.cells (ndC x s) 41) (.cells #[.slice none 0 0] 26))
  obtain ⟨b4, hb4⟩ : ∃ b, Hid (b = w.heap.size + 1 + 1) := ⟨_, rfl⟩
  obtain ⟨b2, hb2⟩ : ∃ b, Hid (b = w.heap.size + 1) := ⟨_, rfl⟩
  obtain ⟨b1, hb1⟩ : ∃ b, Hid (b = w.heap.size) := ⟨_, rfl⟩
  rw [← unhide hb4] at R4
  rw [← unhide hb2] at R2
  rw [← unhide hb1] at R1
  rw [← unhide hb4, ← unhide hb2, ← unhide hb1]
  have lb := hide (show w.heap.size ≤ b1 ∧ b1 < b2 ∧ b2 < b4 by rw [unhide hb4, unhide hb2, unhide hb1]; omega)
  generalize ((w.alloc (.cells #[.slice ao n cp] 26)).alloc (.cells (ndC x s) 41)).alloc (.cells #[.slice none 0 0] 26) = W at R1 R2 R4 HB ⊢
  clear hb1 hb2 hb4
  -- the copy
  have c0 := row1 (unhide R1)
  obtain ⟨B0, hB0⟩ : ∃ B, Hid (B = W.heap.size) := ⟨_, rfl⟩
  have l4 := hide (show b4 < B0 by rw [unhide hB0]; exact heap_lt (unhide R4))
  go_wp2_with fail
  go_fit (unhide EC _ (unhide HB))
  rintro r u1 ⟨p, c, A', rfl, SGk, hb⟩
  have SGk := hide (show SG u1 B0 u1.heap.size p n c X A' by rw [unhide hB0]; exact SGk)
  replace R1 := hide (row_next hb (unhide R1))
  replace R2 := hide (row_next hb (unhide R2))
  replace R4 := hide (row_next hb (unhide R4))
  replace HB := hide (below_two (unhide HB) hb)
  have lB := hide (show B0 ≤ u1.heap.size by rw [unhide hB0]; exact hb.size)
  clear hb c0
  go_upto_region 2 with fail
  have R6 := hide (new_row u1 (.cells #[.slice p n c] 26))
  have hb := al1_below u1 (.cells #[.slice p n c] 26)
  replace R1 := hide (row_next hb (unhide R1))
  replace R2 := hide (row_next hb (unhide R2))
  replace R4 := hide (row_next hb (unhide R4))
  replace HB := hide (below_two (unhide HB) hb)
  replace SGk := hide ((unhide SGk).next hb)
  have lT := hide (show u1.heap.size ≤ (u1.alloc (.cells #[.slice p n c] 26)).heap.size from hb.size)
  clear hb
  generalize u1.alloc (.cells #[.slice p n c] 26) = U at R1 R2 R4 R6 HB SGk lT ⊢
  generalize u1.heap.size = b6 at R6 SGk lB lT ⊢
  have lR := hide (show w.heap.size ≤ b1 ∧ b1 < b2 ∧ b2 < b4 ∧ b4 < B0 ∧ B0 ≤ b6 by have := unhide lb; have := unhide l4; have := unhide lB; omega)
  have lB0 := hide (show w.heap.size ≤ B0 by have := unhide lR; omega)
  have c0 := row1 (unhide R1)
  have F := hide (unhide EM _ (unhide HB))
  go_wp2_with (refine load_own rfl _ rfl b2 rfl x s 41 (unhide R2) ?_)
  go_fit (unhide F)
  rintro r u2 ⟨rfl, hb⟩
  replace R1 := hide (row_next hb (unhide R1))
  replace R2 := hide (row_next hb (unhide R2))
  replace R4 := hide (row_next hb (unhide R4))
  replace R6 := hide (row_next hb (unhide R6))
  replace HB := hide (below_two (unhide HB) hb)
  replace SGk := hide ((unhide SGk).next hb)
  replace lT := hide (Nat.le_trans (unhide lT) hb.size)
  have ET := hide ((unhide hg).next (unhide HB))
  clear hb c0 F EM EC
  by_cases hcc : cc = 0
  rotate_left
  · skip
    rw [errV_is hcc]
    rw [errV_is hcc] at EK
    clear R2
    have SGf := hide (show SG u2 B0 u2.heap.size p n c X A' from (unhide SGk).high (unhide lT))
    clear SGk
    go_upto_region 5 with fail
    generalize u2 = WF at R1 R4 R6 HB SGf ET ⊢
    refine wp_region_held_drew (S := (fun u => u.cell? ⟨b6, 0, none⟩ = some (.slice p n c))) (by kernel_rfl) ?_ (fun hHeld => ?_)
    · exact row1 (unhide R6)
    have hdr := hide (show Below WF.heap.size WF WF.drew from (Below.refl _ _).drew)
    replace R1 := hide (row_next (unhide hdr) (unhide R1))
    replace R4 := hide (row_next (unhide hdr) (unhide R4))
    replace R6 := hide (row_next (unhide hdr) (unhide R6))
    replace HB := hide (below_two (unhide HB) (unhide hdr))
    replace SGf := hide (show SG WF.drew B0 WF.drew.heap.size p n c X A' from (unhide SGf).next (unhide hdr))
    replace ET := hide ((unhide ET).next (unhide hdr))
    clear hdr
    generalize WF.drew = VF at R1 R4 R6 HB SGf ET hHeld ⊢
    refine wpAnyH_take (i := 0) (oi := { dst := some 22, op := Op.load 26 (Operand.tmp 6), type := 26, pos := "l16_change.go:32", after := #[], guard := none }) (v := ?_) rfl (by kernel_rfl) (by kernel_rfl) (by kernel_rfl) (fun _ _ _ h => h) (Or.inl ⟨by rfl, ?_⟩) (by assumption) ?_
    rotate_left
    · intro w hSw; (try dsimp only at hSw); go_simp <;> with_reducible rfl
    try simp only [Act.put, List.setIfInBounds_toArray, List.set_cons_zero, List.set_cons_succ]
    refine wpAnyH_take (i := 1) (oi := { dst := some 23, op := Op.move (Operand.tmp 7), type := 84, pos := "l16_change.go:32", after := #[], guard := none }) (v := ?_) rfl (by kernel_rfl) (by kernel_rfl) (by kernel_rfl) (fun _ _ _ h => h) (Or.inl ⟨by rfl, ?_⟩) (by assumption) ?_
    rotate_left
    · intro w hSw; (try dsimp only at hSw); go_simp <;> with_reducible rfl
    try simp only [Act.put, List.setIfInBounds_toArray, List.set_cons_zero, List.set_cons_succ]
    refine wpAnyH_ready (rs := [2]) (by kernel_rfl) (by simp) ?_
    refine AllReadyH.cons (o := { dst := some 24, op := Op.call { callee := Callee.value (Operand.func 44), args := #[Operand.tmp 23], argTypes := #[84] }, type := 3, pos := "l16_change.go:32", after := #[{ on := 1, ground := Ground.data }], guard := none }) rfl (fun K hK => ?_) ?_
    · go_simp
      (go_at_call 44; go_fit (unhide EK _ (unhide ET)); rintro r Y1 ⟨rfl, hb⟩)
      replace R1 := hide (row_next hb (unhide R1))
      replace R4 := hide (row_next hb (unhide R4))
      replace R6 := hide (row_next hb (unhide R6))
      replace HB := hide (below_two (unhide HB) hb)
      replace SGf := hide (((unhide SGf).next hb).high hb.size)
      replace ET := hide ((unhide ET).next hb)
      refine hK.out _ _ ?_ (fun hHeld => ?_)
      · exact row1 (unhide R6)
      clear hK K hb
      try simp only [Act.put, List.setIfInBounds_toArray, List.set_cons_zero, List.set_cons_succ]
      refine wpAnyH_ready (rs := [3]) (by kernel_rfl) (by simp) ?_
      refine AllReadyH.cons (o := { dst := none, op := Op.store 26 (Operand.tmp 4) (Operand.tmp 22), type := 0, pos := "l16_change.go:32", after := #[{ on := 0, ground := Ground.data }, { on := 2, ground := Ground.chain }, { on := 0, ground := Ground.phase }, { on := 1, ground := Ground.textOnly Departure.lateStores }, { on := 2, ground := Ground.textOnly Departure.lateStoresUnsure }], guard := none }) rfl (fun K hK => ?_) ?_
      · have cb := row1 (unhide R4)
        have fb := frozen_of_row Y1 b4 0 _ _ (unhide R4)
        go_simp
        have dd := hide (show (Y1.setCell ⟨b4, 0, none⟩ (.slice p n c)).cell? ⟨b4, 0, none⟩ = some (.slice p n c) from World.cell?_setCell_same _ _ _ cb)
        replace SGf := hide (show SG (Y1.setCell ⟨b4, 0, none⟩ (.slice p n c)) B0 (Y1.setCell ⟨b4, 0, none⟩ (.slice p n c)).heap.size p n c X A' by have h := (unhide SGf).setk (j := 0) (v := .slice p n c) (unhide R4); simpa [World.setCell] using h)
        replace R6 := hide (setc_other (b := b4) (j := 0) (v := .slice p n c) (by have := unhide lR; omega) (unhide R6))
        replace HB := hide ((unhide HB).setCell (p := ⟨b4, 0, none⟩) (by have := unhide lR; dsimp only; omega) (.slice p n c))
        replace ET := hide ((unhide ET).low (by have := unhide lR; have := unhide l0; omega) ((Below.refl b4 Y1).setCell (p := ⟨b4, 0, none⟩) (Nat.le_refl _) (.slice p n c)))
        refine hK.out _ _ ?_ (fun hHeld => ?_)
        · exact row1 (unhide R6)
        clear hK K cb fb
        try simp only [Act.put, List.setIfInBounds_toArray, List.set_cons_zero, List.set_cons_succ]
        refine wpAnyH_take (i := 4) (oi := { dst := some 5, op := Op.assign (Operand.tmp 24), type := 3, pos := "l16_change.go:32", after := #[{ on := 2, ground := Ground.data }, { on := 3, ground := Ground.chain }, { on := 0, ground := Ground.phase }, { on := 1, ground := Ground.phase }, { on := 2, ground := Ground.phase }, { on := 3, ground := Ground.phase }], guard := none }) (v := ?_) rfl (by kernel_rfl) (by kernel_rfl) (by kernel_rfl) (fun _ _ _ h => h) (Or.inl ⟨by rfl, ?_⟩) (by assumption) ?_
        rotate_left
        · intro w hSw; (try dsimp only at hSw); go_simp <;> with_reducible rfl
        try simp only [Act.put, List.setIfInBounds_toArray, List.set_cons_zero, List.set_cons_succ]
        refine wpAnyH_done (by kernel_rfl) ?_ _
        have d0 := unhide dd
        go_wp2_with fail
        exact bodyPost_ret (v := .tuple #[.agg #[.slice p n c], .int .i64 cc]) (by simp [results, Tryz.results12, go_sem, d0]) rfl (by obtain ⟨e1, e2⟩ := unhide hM0 hcc; rw [e1, e2]; exact ⟨p, c, A', rfl, (unhide SGf).low (unhide lB0), unhide HB⟩)
      exact AllReadyH.nil
    exact AllReadyH.nil
  · subst hcc
    rw [errV_nil]
    rw [errV_nil] at EK
    have hkn := hide hn
    go_upto_region 4 with fail
    refine wp_region_held_drew (S := (fun u => u.cell? ⟨b1, 0, none⟩ = some (.slice ao n cp) ∧ u.rangeAt b2 0 (ndC x s).toList)) (by kernel_rfl) ?_ (fun hHeld => ?_)
    · exact ⟨row1 (unhide R1), rowRng (unhide R2)⟩
    have hdr := hide (show Below u2.heap.size u2 u2.drew from (Below.refl _ _).drew)
    replace R1 := hide (row_next (unhide hdr) (unhide R1))
    replace R2 := hide (row_next (unhide hdr) (unhide R2))
    replace R4 := hide (row_next (unhide hdr) (unhide R4))
    replace R6 := hide (row_next (unhide hdr) (unhide R6))
    replace HB := hide (below_two (unhide HB) (unhide hdr))
    replace SGk := hide ((unhide SGk).next (unhide hdr))
    clear ET
    replace lT := hide (show b6 ≤ u2.drew.heap.size from unhide lT)
    have lBx := hide (show B0 ≤ u2.drew.heap.size by have := unhide lT; have := unhide lB; omega)
    replace lB := lBx
    have SGlt := hide (show True from trivial)
    clear hdr lBx
    generalize u2.drew = V0 at R1 R2 R4 R6 HB SGk lB lT hHeld ⊢
    refine wpAnyH_take (i := 0) (oi := { dst := some 15, op := Op.fieldAddr 26 (Operand.tmp 6) 0, type := 0, pos := "l16_change.go:30", after := #[], guard := none }) (v := ?_) rfl (by kernel_rfl) (by kernel_rfl) (by kernel_rfl) (fun _ _ _ h => h) (Or.inl ⟨by rfl, ?_⟩) (by assumption) ?_
    rotate_left
    · intro w hSw; (try dsimp only at hSw); go_simp <;> with_reducible rfl
    try simp only [Act.put, List.setIfInBounds_toArray, List.set_cons_zero, List.set_cons_succ]
    refine wpAnyH_take (i := 2) (oi := { dst := some 17, op := Op.load 41 (Operand.tmp 3), type := 41, pos := "l16_change.go:30", after := #[], guard := none }) (v := .agg (ndC x s)) rfl (by kernel_rfl) (by kernel_rfl) (by kernel_rfl) (fun _ _ _ h => h) (yields_node (by rfl) _ rfl b2 (0) rfl x s (fun w h => h.2)) (by assumption) ?_
    try simp only [Act.put, List.setIfInBounds_toArray, List.set_cons_zero, List.set_cons_succ]
    refine wpAnyH_ready (rs := [1, 3]) (by kernel_rfl) (by simp) ?_
    refine AllReadyH.cons (o := { dst := some 16, op := Op.load 24 (Operand.tmp 15), type := 24, pos := "l16_change.go:30", after := #[{ on := 0, ground := Ground.data }], guard := none }) rfl (fun K hK => ?_) ?_
    · have cb := row1 (unhide R6)
      go_simp
      refine hK.out _ _ ?_ (fun hHeld => ?_)
      · exact ⟨row1 (unhide R1), rowRng (unhide R2)⟩
      clear hK K
      try simp only [Act.put, List.setIfInBounds_toArray, List.set_cons_zero, List.set_cons_succ]
      clear cb
      refine wpAnyH_ready (rs := [3]) (by kernel_rfl) (by simp) ?_
      refine AllReadyH.cons (o := { dst := some 18, op := Op.call { callee := Callee.value (Operand.func 43), args := #[Operand.tmp 17], argTypes := #[41] }, type := 41, pos := "l16_change.go:30", after := #[{ on := 2, ground := Ground.data }], guard := none }) rfl (fun K hK => ?_) ?_
      · go_simp
        (go_at_call 43; go_fit (unhide EN _ (unhide HB)); rintro r V1 ⟨s', rfl, hx, hb⟩)
        replace R1 := hide (row_next hb (unhide R1))
        replace R2 := hide (row_next hb (unhide R2))
        replace R4 := hide (row_next hb (unhide R4))
        replace R6 := hide (row_next hb (unhide R6))
        replace HB := hide (below_two (unhide HB) hb)
        refine hK.out _ _ ?_ (fun hHeld => ?_)
        · exact ⟨row1 (unhide R1), rowRng (unhide R2)⟩
        clear hK K
        try simp only [Act.put, List.setIfInBounds_toArray, List.set_cons_zero, List.set_cons_succ]
        replace hx := hide hx
        have bC := hide hb
        clear hb
        refine wpAnyH_ready (rs := [4]) (by kernel_rfl) (by simp) ?_
        refine AllReadyH.cons (o := { dst := some 19, op := Op.buildSlice 24 1 #[(0, Operand.tmp 18)], type := 24, pos := "l16_change.go:30", after := #[{ on := 3, ground := Ground.data }], guard := none }) rfl (fun K hK => ?_) ?_
        · refine step_build_node rfl _ rfl x s' rfl ?_
          replace R1 := hide (row_next (al1_below V1 (.cells (ndC x s') 41)) (unhide R1))
          replace R2 := hide (row_next (al1_below V1 (.cells (ndC x s') 41)) (unhide R2))
          replace R4 := hide (row_next (al1_below V1 (.cells (ndC x s') 41)) (unhide R4))
          replace R6 := hide (row_next (al1_below V1 (.cells (ndC x s') 41)) (unhide R6))
          replace HB := hide (below_two (unhide HB) (al1_below V1 (.cells (ndC x s') 41)))
          refine hK.out _ _ ?_ (fun hHeld => ?_)
          · exact ⟨row1 (unhide R1), rowRng (unhide R2)⟩
          clear hK K
          try simp only [Act.put, List.setIfInBounds_toArray, List.set_cons_zero, List.set_cons_succ]
          refine wpAnyH_ready (rs := [5]) (by kernel_rfl) (by simp) ?_
          refine AllReadyH.cons (o := { dst := some 20, op := Op.call { callee := Callee.builtin Builtin.append, args := #[Operand.tmp 16, Operand.tmp 19], argTypes := #[24, 24] }, type := 24, pos := "l16_change.go:30", after := #[{ on := 1, ground := Ground.data }, { on := 4, ground := Ground.data }, { on := 3, ground := Ground.chain }], guard := none }) rfl (fun K hK => ?_) ?_
          · refine step_append_sg rfl _ _ rfl (unhide SGk) (unhide lT) (unhide lB) (unhide bC) (unhide hx) (by have := unhide hkn; omega) rfl rfl ?_
            intro p' c' V2 SGn g6
            replace R1 := hide ((g6.block b1 (heap_lt (unhide R1)) (fun e => by obtain ⟨ys, y1, _⟩ := (unhide SGk).row; have := (y1.lt b1 e.symm).1; have := unhide lR; omega)).trans (unhide R1))
            replace R2 := hide ((g6.block b2 (heap_lt (unhide R2)) (fun e => by obtain ⟨ys, y1, _⟩ := (unhide SGk).row; have := (y1.lt b2 e.symm).1; have := unhide lR; omega)).trans (unhide R2))
            replace R4 := hide ((g6.block b4 (heap_lt (unhide R4)) (fun e => by obtain ⟨ys, y1, _⟩ := (unhide SGk).row; have := (y1.lt b4 e.symm).1; have := unhide lR; omega)).trans (unhide R4))
            replace R6 := hide ((g6.block b6 (heap_lt (unhide R6)) (fun e => by obtain ⟨ys, y1, _⟩ := (unhide SGk).row; have := (y1.lt b6 e.symm).2; have := unhide SGlt; have := unhide lR; have := (unhide SGk).apt.row b6 e.symm; omega)).trans (unhide R6))
            replace HB := hide ((unhide HB).grown g6 (unhide HB).size (fun q hq => by obtain ⟨ys, y1, _⟩ := (unhide SGk).row; have := (y1.lt q hq).1; have := unhide lR; omega))
            refine hK.out _ _ ?_ (fun hHeld => ?_)
            · exact ⟨row1 (unhide R1), rowRng (unhide R2)⟩
            clear hK K
            try simp only [Act.put, List.setIfInBounds_toArray, List.set_cons_zero, List.set_cons_succ]
            replace SGn := hide SGn
            clear g6
            refine wpAnyH_take (i := 6) (oi := { dst := some 21, op := Op.fieldAddr 26 (Operand.tmp 6) 0, type := 0, pos := "l16_change.go:30", after := #[{ on := 0, ground := Ground.phase }, { on := 1, ground := Ground.phase }, { on := 2, ground := Ground.phase }, { on := 3, ground := Ground.phase }, { on := 4, ground := Ground.phase }, { on := 5, ground := Ground.phase }], guard := none }) (v := ?_) rfl (by kernel_rfl) (by kernel_rfl) (by kernel_rfl) (fun _ _ _ h => h) (Or.inl ⟨by rfl, ?_⟩) (by assumption) ?_
            rotate_left
            · intro w hSw; (try dsimp only at hSw); go_simp <;> with_reducible rfl
            try simp only [Act.put, List.setIfInBounds_toArray, List.set_cons_zero, List.set_cons_succ]
            refine wpAnyH_ready (rs := [7]) (by kernel_rfl) (by simp) ?_
            refine AllReadyH.cons (o := { dst := none, op := Op.store 24 (Operand.tmp 21) (Operand.tmp 20), type := 0, pos := "l16_change.go:30", after := #[{ on := 6, ground := Ground.data }, { on := 5, ground := Ground.data }, { on := 5, ground := Ground.chain }, { on := 0, ground := Ground.phase }, { on := 1, ground := Ground.phase }, { on := 2, ground := Ground.phase }, { on := 3, ground := Ground.phase }, { on := 4, ground := Ground.phase }, { on := 5, ground := Ground.phase }], guard := none }) rfl (fun K hK => ?_) ?_
            · have cb := row1 (unhide R6)
              have fb := frozen_of_row V2 b6 0 _ _ (unhide R6)
              go_simp
              have R6x := hide (show (V2.setCell ⟨b6, 0, none⟩ (.slice p' (n + 1) c')).heap[b6]? = some (.cells #[(.slice p' (n + 1) c')] 26 (0, 0)) by have := setC (v := (.slice p' (n + 1) c')) (j := 0) (unhide R6); simpa using this)
              replace R1 := hide (setc_other (b := b6) (j := 0) (v := (.slice p' (n + 1) c')) (by have := unhide lR; omega) (unhide R1))
              replace R2 := hide (setc_other (b := b6) (j := 0) (v := (.slice p' (n + 1) c')) (by have := unhide lR; omega) (unhide R2))
              replace R4 := hide (setc_other (b := b6) (j := 0) (v := (.slice p' (n + 1) c')) (by have := unhide lR; omega) (unhide R4))
              have R6o := R6
              replace R6 := R6x
              clear R6x cb fb
              replace HB := hide ((unhide HB).setCell (p := ⟨b6, 0, none⟩) (by have := unhide lR; dsimp only; omega) (.slice p' (n + 1) c'))
              replace SGn := hide (show SG (V2.setCell ⟨b6, 0, none⟩ (.slice p' (n + 1) c')) B0 (V2.setCell ⟨b6, 0, none⟩ (.slice p' (n + 1) c')).heap.size p' (n + 1) c' (upd X n x) (upd A' n s') by have h := (unhide SGn).setk (j := 0) (v := (.slice p' (n + 1) c')) (unhide R6o); simpa [World.setCell] using h)
              clear R6o
              refine hK.out _ _ ?_ (fun hHeld => ?_)
              · exact ⟨row1 (unhide R1), rowRng (unhide R2)⟩
              clear hK K
              try simp only [Act.put, List.setIfInBounds_toArray, List.set_cons_zero, List.set_cons_succ]
              refine wpAnyH_done (by kernel_rfl) ?_ _
              have SGf := hide (show SG (V2.setCell ⟨b6, 0, none⟩ (.slice p' (n + 1) c')) B0 (V2.setCell ⟨b6, 0, none⟩ (.slice p' (n + 1) c')).heap.size p' (n + 1) c' (upd X n x) (upd A' n s') from unhide SGn)
              clear SGn SGk
              have ET := hide (show ErrT (V2.setCell ⟨b6, 0, none⟩ (.slice p' (n + 1) c')) from (unhide hg).next (unhide HB))
              go_upto_region 5 with fail
              generalize (V2.setCell ⟨b6, 0, none⟩ (.slice p' (n + 1) c')) = WF at R1 R4 R6 HB SGf ET ⊢
              clear R2
              refine wp_region_held_drew (S := (fun u => u.cell? ⟨b6, 0, none⟩ = some (.slice p' (n + 1) c'))) (by kernel_rfl) ?_ (fun hHeld => ?_)
              · exact row1 (unhide R6)
              have hdr := hide (show Below WF.heap.size WF WF.drew from (Below.refl _ _).drew)
              replace R1 := hide (row_next (unhide hdr) (unhide R1))
              replace R4 := hide (row_next (unhide hdr) (unhide R4))
              replace R6 := hide (row_next (unhide hdr) (unhide R6))
              replace HB := hide (below_two (unhide HB) (unhide hdr))
              replace SGf := hide (show SG WF.drew B0 WF.drew.heap.size p' (n + 1) c' (upd X n x) (upd A' n s') from (unhide SGf).next (unhide hdr))
              replace ET := hide ((unhide ET).next (unhide hdr))
              clear hdr
              generalize WF.drew = VF at R1 R4 R6 HB SGf ET hHeld ⊢
              refine wpAnyH_take (i := 0) (oi := { dst := some 22, op := Op.load 26 (Operand.tmp 6), type := 26, pos := "l16_change.go:32", after := #[], guard := none }) (v := ?_) rfl (by kernel_rfl) (by kernel_rfl) (by kernel_rfl) (fun _ _ _ h => h) (Or.inl ⟨by rfl, ?_⟩) (by assumption) ?_
              rotate_left
              · intro w hSw; (try dsimp only at hSw); go_simp <;> with_reducible rfl
              try simp only [Act.put, List.setIfInBounds_toArray, List.set_cons_zero, List.set_cons_succ]
              refine wpAnyH_take (i := 1) (oi := { dst := some 23, op := Op.move (Operand.tmp 7), type := 84, pos := "l16_change.go:32", after := #[], guard := none }) (v := ?_) rfl (by kernel_rfl) (by kernel_rfl) (by kernel_rfl) (fun _ _ _ h => h) (Or.inl ⟨by rfl, ?_⟩) (by assumption) ?_
              rotate_left
              · intro w hSw; (try dsimp only at hSw); go_simp <;> with_reducible rfl
              try simp only [Act.put, List.setIfInBounds_toArray, List.set_cons_zero, List.set_cons_succ]
              refine wpAnyH_ready (rs := [2]) (by kernel_rfl) (by simp) ?_
              refine AllReadyH.cons (o := { dst := some 24, op := Op.call { callee := Callee.value (Operand.func 44), args := #[Operand.tmp 23], argTypes := #[84] }, type := 3, pos := "l16_change.go:32", after := #[{ on := 1, ground := Ground.data }], guard := none }) rfl (fun K hK => ?_) ?_
              · go_simp
                (go_at_call 44; go_fit (unhide EK _ (unhide ET)); rintro r Y1 ⟨rfl, hb⟩)
                replace R1 := hide (row_next hb (unhide R1))
                replace R4 := hide (row_next hb (unhide R4))
                replace R6 := hide (row_next hb (unhide R6))
                replace HB := hide (below_two (unhide HB) hb)
                replace SGf := hide (((unhide SGf).next hb).high hb.size)
                replace ET := hide ((unhide ET).next hb)
                refine hK.out _ _ ?_ (fun hHeld => ?_)
                · exact row1 (unhide R6)
                clear hK K hb
                try simp only [Act.put, List.setIfInBounds_toArray, List.set_cons_zero, List.set_cons_succ]
                refine wpAnyH_ready (rs := [3]) (by kernel_rfl) (by simp) ?_
                refine AllReadyH.cons (o := { dst := none, op := Op.store 26 (Operand.tmp 4) (Operand.tmp 22), type := 0, pos := "l16_change.go:32", after := #[{ on := 0, ground := Ground.data }, { on := 2, ground := Ground.chain }, { on := 0, ground := Ground.phase }, { on := 1, ground := Ground.textOnly Departure.lateStores }, { on := 2, ground := Ground.textOnly Departure.lateStoresUnsure }], guard := none }) rfl (fun K hK => ?_) ?_
                · have cb := row1 (unhide R4)
                  have fb := frozen_of_row Y1 b4 0 _ _ (unhide R4)
                  go_simp
                  have dd := hide (show (Y1.setCell ⟨b4, 0, none⟩ (.slice p' (n + 1) c')).cell? ⟨b4, 0, none⟩ = some (.slice p' (n + 1) c') from World.cell?_setCell_same _ _ _ cb)
                  replace SGf := hide (show SG (Y1.setCell ⟨b4, 0, none⟩ (.slice p' (n + 1) c')) B0 (Y1.setCell ⟨b4, 0, none⟩ (.slice p' (n + 1) c')).heap.size p' (n + 1) c' (upd X n x) (upd A' n s') by have h := (unhide SGf).setk (j := 0) (v := .slice p' (n + 1) c') (unhide R4); simpa [World.setCell] using h)
                  replace R6 := hide (setc_other (b := b4) (j := 0) (v := .slice p' (n + 1) c') (by have := unhide lR; omega) (unhide R6))
                  replace HB := hide ((unhide HB).setCell (p := ⟨b4, 0, none⟩) (by have := unhide lR; dsimp only; omega) (.slice p' (n + 1) c'))
                  replace ET := hide ((unhide ET).low (by have := unhide lR; have := unhide l0; omega) ((Below.refl b4 Y1).setCell (p := ⟨b4, 0, none⟩) (Nat.le_refl _) (.slice p' (n + 1) c')))
                  refine hK.out _ _ ?_ (fun hHeld => ?_)
                  · exact row1 (unhide R6)
                  clear hK K cb fb
                  try simp only [Act.put, List.setIfInBounds_toArray, List.set_cons_zero, List.set_cons_succ]
                  refine wpAnyH_take (i := 4) (oi := { dst := some 5, op := Op.assign (Operand.tmp 24), type := 3, pos := "l16_change.go:32", after := #[{ on := 2, ground := Ground.data }, { on := 3, ground := Ground.chain }, { on := 0, ground := Ground.phase }, { on := 1, ground := Ground.phase }, { on := 2, ground := Ground.phase }, { on := 3, ground := Ground.phase }], guard := none }) (v := ?_) rfl (by kernel_rfl) (by kernel_rfl) (by kernel_rfl) (fun _ _ _ h => h) (Or.inl ⟨by rfl, ?_⟩) (by assumption) ?_
                  rotate_left
                  · intro w hSw; (try dsimp only at hSw); go_simp <;> with_reducible rfl
                  try simp only [Act.put, List.setIfInBounds_toArray, List.set_cons_zero, List.set_cons_succ]
                  refine wpAnyH_done (by kernel_rfl) ?_ _
                  have d0 := unhide dd
                  go_wp2_with fail
                  exact bodyPost_ret (v := .tuple #[.agg #[.slice p' (n + 1) c'], .int .i64 0]) (by simp [results, Tryz.results12, go_sem, d0]) rfl (by obtain ⟨e1, e2⟩ := unhide hM1 (by trivial); rw [e1, e2]; exact ⟨p', c', (upd A' n s'), rfl, (unhide SGf).low (unhide lB0), unhide HB⟩)
                exact AllReadyH.nil
              exact AllReadyH.nil
            exact AllReadyH.nil
          exact AllReadyH.nil
        exact AllReadyH.nil
      exact AllReadyH.nil
    refine AllReadyH.cons (o := { dst := some 18, op := Op.call { callee := Callee.value (Operand.func 43), args := #[Operand.tmp 17], argTypes := #[41] }, type := 41, pos := "l16_change.go:30", after := #[{ on := 2, ground := Ground.data }], guard := none }) rfl (fun K hK => ?_) ?_
    · go_simp
      (go_at_call 43; go_fit (unhide EN _ (unhide HB)); rintro r V3 ⟨s', rfl, hx, hb⟩)
      replace R1 := hide (row_next hb (unhide R1))
      replace R2 := hide (row_next hb (unhide R2))
      replace R4 := hide (row_next hb (unhide R4))
      replace R6 := hide (row_next hb (unhide R6))
      replace HB := hide (below_two (unhide HB) hb)
      refine hK.out _ _ ?_ (fun hHeld => ?_)
      · exact ⟨row1 (unhide R1), rowRng (unhide R2)⟩
      clear hK K
      try simp only [Act.put, List.setIfInBounds_toArray, List.set_cons_zero, List.set_cons_succ]
      replace hx := hide hx
      have bC := hide hb
      clear hb
      refine wpAnyH_ready (rs := [1, 4]) (by kernel_rfl) (by simp) ?_
      refine AllReadyH.cons (o := { dst := some 16, op := Op.load 24 (Operand.tmp 15), type := 24, pos := "l16_change.go:30", after := #[{ on := 0, ground := Ground.data }], guard := none }) rfl (fun K hK => ?_) ?_
      · have cb := row1 (unhide R6)
        go_simp
        refine hK.out _ _ ?_ (fun hHeld => ?_)
        · exact ⟨row1 (unhide R1), rowRng (unhide R2)⟩
        clear hK K
        try simp only [Act.put, List.setIfInBounds_toArray, List.set_cons_zero, List.set_cons_succ]
        clear cb
        refine wpAnyH_ready (rs := [4]) (by kernel_rfl) (by simp) ?_
        refine AllReadyH.cons (o := { dst := some 19, op := Op.buildSlice 24 1 #[(0, Operand.tmp 18)], type := 24, pos := "l16_change.go:30", after := #[{ on := 3, ground := Ground.data }], guard := none }) rfl (fun K hK => ?_) ?_
        · refine step_build_node rfl _ rfl x s' rfl ?_
          replace R1 := hide (row_next (al1_below V3 (.cells (ndC x s') 41)) (unhide R1))
          replace R2 := hide (row_next (al1_below V3 (.cells (ndC x s') 41)) (unhide R2))
          replace R4 := hide (row_next (al1_below V3 (.cells (ndC x s') 41)) (unhide R4))
          replace R6 := hide (row_next (al1_below V3 (.cells (ndC x s') 41)) (unhide R6))
          replace HB := hide (below_two (unhide HB) (al1_below V3 (.cells (ndC x s') 41)))
          refine hK.out _ _ ?_ (fun hHeld => ?_)
          · exact ⟨row1 (unhide R1), rowRng (unhide R2)⟩
          clear hK K
          try simp only [Act.put, List.setIfInBounds_toArray, List.set_cons_zero, List.set_cons_succ]
          refine wpAnyH_ready (rs := [5]) (by kernel_rfl) (by simp) ?_
          refine AllReadyH.cons (o := { dst := some 20, op := Op.call { callee := Callee.builtin Builtin.append, args := #[Operand.tmp 16, Operand.tmp 19], argTypes := #[24, 24] }, type := 24, pos := "l16_change.go:30", after := #[{ on := 1, ground := Ground.data }, { on := 4, ground := Ground.data }, { on := 3, ground := Ground.chain }], guard := none }) rfl (fun K hK => ?_) ?_
          · refine step_append_sg rfl _ _ rfl (unhide SGk) (unhide lT) (unhide lB) (unhide bC) (unhide hx) (by have := unhide hkn; omega) rfl rfl ?_
            intro p' c' V4 SGn g6
            replace R1 := hide ((g6.block b1 (heap_lt (unhide R1)) (fun e => by obtain ⟨ys, y1, _⟩ := (unhide SGk).row; have := (y1.lt b1 e.symm).1; have := unhide lR; omega)).trans (unhide R1))
            replace R2 := hide ((g6.block b2 (heap_lt (unhide R2)) (fun e => by obtain ⟨ys, y1, _⟩ := (unhide SGk).row; have := (y1.lt b2 e.symm).1; have := unhide lR; omega)).trans (unhide R2))
            replace R4 := hide ((g6.block b4 (heap_lt (unhide R4)) (fun e => by obtain ⟨ys, y1, _⟩ := (unhide SGk).row; have := (y1.lt b4 e.symm).1; have := unhide lR; omega)).trans (unhide R4))
            replace R6 := hide ((g6.block b6 (heap_lt (unhide R6)) (fun e => by obtain ⟨ys, y1, _⟩ := (unhide SGk).row; have := (y1.lt b6 e.symm).2; have := unhide SGlt; have := unhide lR; have := (unhide SGk).apt.row b6 e.symm; omega)).trans (unhide R6))
            replace HB := hide ((unhide HB).grown g6 (unhide HB).size (fun q hq => by obtain ⟨ys, y1, _⟩ := (unhide SGk).row; have := (y1.lt q hq).1; have := unhide lR; omega))
            refine hK.out _ _ ?_ (fun hHeld => ?_)
            · exact ⟨row1 (unhide R1), rowRng (unhide R2)⟩
            clear hK K
            try simp only [Act.put, List.setIfInBounds_toArray, List.set_cons_zero, List.set_cons_succ]
            replace SGn := hide SGn
            clear g6
            refine wpAnyH_take (i := 6) (oi := { dst := some 21, op := Op.fieldAddr 26 (Operand.tmp 6) 0, type := 0, pos := "l16_change.go:30", after := #[{ on := 0, ground := Ground.phase }, { on := 1, ground := Ground.phase }, { on := 2, ground := Ground.phase }, { on := 3, ground := Ground.phase }, { on := 4, ground := Ground.phase }, { on := 5, ground := Ground.phase }], guard := none }) (v := ?_) rfl (by kernel_rfl) (by kernel_rfl) (by kernel_rfl) (fun _ _ _ h => h) (Or.inl ⟨by rfl, ?_⟩) (by assumption) ?_
            rotate_left
            · intro w hSw; (try dsimp only at hSw); go_simp <;> with_reducible rfl
            try simp only [Act.put, List.setIfInBounds_toArray, List.set_cons_zero, List.set_cons_succ]
            refine wpAnyH_ready (rs := [7]) (by kernel_rfl) (by simp) ?_
            refine AllReadyH.cons (o := { dst := none, op := Op.store 24 (Operand.tmp 21) (Operand.tmp 20), type := 0, pos := "l16_change.go:30", after := #[{ on := 6, ground := Ground.data }, { on := 5, ground := Ground.data }, { on := 5, ground := Ground.chain }, { on := 0, ground := Ground.phase }, { on := 1, ground := Ground.phase }, { on := 2, ground := Ground.phase }, { on := 3, ground := Ground.phase }, { on := 4, ground := Ground.phase }, { on := 5, ground := Ground.phase }], guard := none }) rfl (fun K hK => ?_) ?_
            · have cb := row1 (unhide R6)
              have fb := frozen_of_row V4 b6 0 _ _ (unhide R6)
              go_simp
              have R6x := hide (show (V4.setCell ⟨b6, 0, none⟩ (.slice p' (n + 1) c')).heap[b6]? = some (.cells #[(.slice p' (n + 1) c')] 26 (0, 0)) by have := setC (v := (.slice p' (n + 1) c')) (j := 0) (unhide R6); simpa using this)
              replace R1 := hide (setc_other (b := b6) (j := 0) (v := (.slice p' (n + 1) c')) (by have := unhide lR; omega) (unhide R1))
              replace R2 := hide (setc_other (b := b6) (j := 0) (v := (.slice p' (n + 1) c')) (by have := unhide lR; omega) (unhide R2))
              replace R4 := hide (setc_other (b := b6) (j := 0) (v := (.slice p' (n + 1) c')) (by have := unhide lR; omega) (unhide R4))
              have R6o := R6
              replace R6 := R6x
              clear R6x cb fb
              replace HB := hide ((unhide HB).setCell (p := ⟨b6, 0, none⟩) (by have := unhide lR; dsimp only; omega) (.slice p' (n + 1) c'))
              replace SGn := hide (show SG (V4.setCell ⟨b6, 0, none⟩ (.slice p' (n + 1) c')) B0 (V4.setCell ⟨b6, 0, none⟩ (.slice p' (n + 1) c')).heap.size p' (n + 1) c' (upd X n x) (upd A' n s') by have h := (unhide SGn).setk (j := 0) (v := (.slice p' (n + 1) c')) (unhide R6o); simpa [World.setCell] using h)
              clear R6o
              refine hK.out _ _ ?_ (fun hHeld => ?_)
              · exact ⟨row1 (unhide R1), rowRng (unhide R2)⟩
              clear hK K
              try simp only [Act.put, List.setIfInBounds_toArray, List.set_cons_zero, List.set_cons_succ]
              refine wpAnyH_done (by kernel_rfl) ?_ _
              have SGf := hide (show SG (V4.setCell ⟨b6, 0, none⟩ (.slice p' (n + 1) c')) B0 (V4.setCell ⟨b6, 0, none⟩ (.slice p' (n + 1) c')).heap.size p' (n + 1) c' (upd X n x) (upd A' n s') from unhide SGn)
              clear SGn SGk
              have ET := hide (show ErrT (V4.setCell ⟨b6, 0, none⟩ (.slice p' (n + 1) c')) from (unhide hg).next (unhide HB))
              go_upto_region 5 with fail
              generalize (V4.setCell ⟨b6, 0, none⟩ (.slice p' (n + 1) c')) = WF at R1 R4 R6 HB SGf ET ⊢
              clear R2
              refine wp_region_held_drew (S := (fun u => u.cell? ⟨b6, 0, none⟩ = some (.slice p' (n + 1) c'))) (by kernel_rfl) ?_ (fun hHeld => ?_)
              · exact row1 (unhide R6)
              have hdr := hide (show Below WF.heap.size WF WF.drew from (Below.refl _ _).drew)
              replace R1 := hide (row_next (unhide hdr) (unhide R1))
              replace R4 := hide (row_next (unhide hdr) (unhide R4))
              replace R6 := hide (row_next (unhide hdr) (unhide R6))
              replace HB := hide (below_two (unhide HB) (unhide hdr))
              replace SGf := hide (show SG WF.drew B0 WF.drew.heap.size p' (n + 1) c' (upd X n x) (upd A' n s') from (unhide SGf).next (unhide hdr))
              replace ET := hide ((unhide ET).next (unhide hdr))
              clear hdr
              generalize WF.drew = VF at R1 R4 R6 HB SGf ET hHeld ⊢
              refine wpAnyH_take (i := 0) (oi := { dst := some 22, op := Op.load 26 (Operand.tmp 6), type := 26, pos := "l16_change.go:32", after := #[], guard := none }) (v := ?_) rfl (by kernel_rfl) (by kernel_rfl) (by kernel_rfl) (fun _ _ _ h => h) (Or.inl ⟨by rfl, ?_⟩) (by assumption) ?_
              rotate_left
              · intro w hSw; (try dsimp only at hSw); go_simp <;> with_reducible rfl
              try simp only [Act.put, List.setIfInBounds_toArray, List.set_cons_zero, List.set_cons_succ]
              refine wpAnyH_take (i := 1) (oi := { dst := some 23, op := Op.move (Operand.tmp 7), type := 84, pos := "l16_change.go:32", after := #[], guard := none }) (v := ?_) rfl (by kernel_rfl) (by kernel_rfl) (by kernel_rfl) (fun _ _ _ h => h) (Or.inl ⟨by rfl, ?_⟩) (by assumption) ?_
              rotate_left
              · intro w hSw; (try dsimp only at hSw); go_simp <;> with_reducible rfl
              try simp only [Act.put, List.setIfInBounds_toArray, List.set_cons_zero, List.set_cons_succ]
              refine wpAnyH_ready (rs := [2]) (by kernel_rfl) (by simp) ?_
              refine AllReadyH.cons (o := { dst := some 24, op := Op.call { callee := Callee.value (Operand.func 44), args := #[Operand.tmp 23], argTypes := #[84] }, type := 3, pos := "l16_change.go:32", after := #[{ on := 1, ground := Ground.data }], guard := none }) rfl (fun K hK => ?_) ?_
              · go_simp
                (go_at_call 44; go_fit (unhide EK _ (unhide ET)); rintro r Y1 ⟨rfl, hb⟩)
                replace R1 := hide (row_next hb (unhide R1))
                replace R4 := hide (row_next hb (unhide R4))
                replace R6 := hide (row_next hb (unhide R6))
                replace HB := hide (below_two (unhide HB) hb)
                replace SGf := hide (((unhide SGf).next hb).high hb.size)
                replace ET := hide ((unhide ET).next hb)
                refine hK.out _ _ ?_ (fun hHeld => ?_)
                · exact row1 (unhide R6)
                clear hK K hb
                try simp only [Act.put, List.setIfInBounds_toArray, List.set_cons_zero, List.set_cons_succ]
                refine wpAnyH_ready (rs := [3]) (by kernel_rfl) (by simp) ?_
                refine AllReadyH.cons (o := { dst := none, op := Op.store 26 (Operand.tmp 4) (Operand.tmp 22), type := 0, pos := "l16_change.go:32", after := #[{ on := 0, ground := Ground.data }, { on := 2, ground := Ground.chain }, { on := 0, ground := Ground.phase }, { on := 1, ground := Ground.textOnly Departure.lateStores }, { on := 2, ground := Ground.textOnly Departure.lateStoresUnsure }], guard := none }) rfl (fun K hK => ?_) ?_
                · have cb := row1 (unhide R4)
                  have fb := frozen_of_row Y1 b4 0 _ _ (unhide R4)
                  go_simp
                  have dd := hide (show (Y1.setCell ⟨b4, 0, none⟩ (.slice p' (n + 1) c')).cell? ⟨b4, 0, none⟩ = some (.slice p' (n + 1) c') from World.cell?_setCell_same _ _ _ cb)
                  replace SGf := hide (show SG (Y1.setCell ⟨b4, 0, none⟩ (.slice p' (n + 1) c')) B0 (Y1.setCell ⟨b4, 0, none⟩ (.slice p' (n + 1) c')).heap.size p' (n + 1) c' (upd X n x) (upd A' n s') by have h := (unhide SGf).setk (j := 0) (v := .slice p' (n + 1) c') (unhide R4); simpa [World.setCell] using h)
                  replace R6 := hide (setc_other (b := b4) (j := 0) (v := .slice p' (n + 1) c') (by have := unhide lR; omega) (unhide R6))
                  replace HB := hide ((unhide HB).setCell (p := ⟨b4, 0, none⟩) (by have := unhide lR; dsimp only; omega) (.slice p' (n + 1) c'))
                  replace ET := hide ((unhide ET).low (by have := unhide lR; have := unhide l0; omega) ((Below.refl b4 Y1).setCell (p := ⟨b4, 0, none⟩) (Nat.le_refl _) (.slice p' (n + 1) c')))
                  refine hK.out _ _ ?_ (fun hHeld => ?_)
                  · exact row1 (unhide R6)
                  clear hK K cb fb
                  try simp only [Act.put, List.setIfInBounds_toArray, List.set_cons_zero, List.set_cons_succ]
                  refine wpAnyH_take (i := 4) (oi := { dst := some 5, op := Op.assign (Operand.tmp 24), type := 3, pos := "l16_change.go:32", after := #[{ on := 2, ground := Ground.data }, { on := 3, ground := Ground.chain }, { on := 0, ground := Ground.phase }, { on := 1, ground := Ground.phase }, { on := 2, ground := Ground.phase }, { on := 3, ground := Ground.phase }], guard := none }) (v := ?_) rfl (by kernel_rfl) (by kernel_rfl) (by kernel_rfl) (fun _ _ _ h => h) (Or.inl ⟨by rfl, ?_⟩) (by assumption) ?_
                  rotate_left
                  · intro w hSw; (try dsimp only at hSw); go_simp <;> with_reducible rfl
                  try simp only [Act.put, List.setIfInBounds_toArray, List.set_cons_zero, List.set_cons_succ]
                  refine wpAnyH_done (by kernel_rfl) ?_ _
                  have d0 := unhide dd
                  go_wp2_with fail
                  exact bodyPost_ret (v := .tuple #[.agg #[.slice p' (n + 1) c'], .int .i64 0]) (by simp [results, Tryz.results12, go_sem, d0]) rfl (by obtain ⟨e1, e2⟩ := unhide hM1 (by trivial); rw [e1, e2]; exact ⟨p', c', (upd A' n s'), rfl, (unhide SGf).low (unhide lB0), unhide HB⟩)
                exact AllReadyH.nil
              exact AllReadyH.nil
            exact AllReadyH.nil
          exact AllReadyH.nil
        exact AllReadyH.nil
      refine AllReadyH.cons (o := { dst := some 19, op := Op.buildSlice 24 1 #[(0, Operand.tmp 18)], type := 24, pos := "l16_change.go:30", after := #[{ on := 3, ground := Ground.data }], guard := none }) rfl (fun K hK => ?_) ?_
      · refine step_build_node rfl _ rfl x s' rfl ?_
        replace R1 := hide (row_next (al1_below V3 (.cells (ndC x s') 41)) (unhide R1))
        replace R2 := hide (row_next (al1_below V3 (.cells (ndC x s') 41)) (unhide R2))
        replace R4 := hide (row_next (al1_below V3 (.cells (ndC x s') 41)) (unhide R4))
        replace R6 := hide (row_next (al1_below V3 (.cells (ndC x s') 41)) (unhide R6))
        replace HB := hide (below_two (unhide HB) (al1_below V3 (.cells (ndC x s') 41)))
        refine hK.out _ _ ?_ (fun hHeld => ?_)
        · exact ⟨row1 (unhide R1), rowRng (unhide R2)⟩
        clear hK K
        try simp only [Act.put, List.setIfInBounds_toArray, List.set_cons_zero, List.set_cons_succ]
        refine wpAnyH_ready (rs := [1]) (by kernel_rfl) (by simp) ?_
        refine AllReadyH.cons (o := { dst := some 16, op := Op.load 24 (Operand.tmp 15), type := 24, pos := "l16_change.go:30", after := #[{ on := 0, ground := Ground.data }], guard := none }) rfl (fun K hK => ?_) ?_
        · have cb := row1 (unhide R6)
          go_simp
          refine hK.out _ _ ?_ (fun hHeld => ?_)
          · exact ⟨row1 (unhide R1), rowRng (unhide R2)⟩
          clear hK K
          try simp only [Act.put, List.setIfInBounds_toArray, List.set_cons_zero, List.set_cons_succ]
          clear cb
          refine wpAnyH_ready (rs := [5]) (by kernel_rfl) (by simp) ?_
          refine AllReadyH.cons (o := { dst := some 20, op := Op.call { callee := Callee.builtin Builtin.append, args := #[Operand.tmp 16, Operand.tmp 19], argTypes := #[24, 24] }, type := 24, pos := "l16_change.go:30", after := #[{ on := 1, ground := Ground.data }, { on := 4, ground := Ground.data }, { on := 3, ground := Ground.chain }], guard := none }) rfl (fun K hK => ?_) ?_
          · refine step_append_sg rfl _ _ rfl (unhide SGk) (unhide lT) (unhide lB) (unhide bC) (unhide hx) (by have := unhide hkn; omega) rfl rfl ?_
            intro p' c' V5 SGn g6
            replace R1 := hide ((g6.block b1 (heap_lt (unhide R1)) (fun e => by obtain ⟨ys, y1, _⟩ := (unhide SGk).row; have := (y1.lt b1 e.symm).1; have := unhide lR; omega)).trans (unhide R1))
            replace R2 := hide ((g6.block b2 (heap_lt (unhide R2)) (fun e => by obtain ⟨ys, y1, _⟩ := (unhide SGk).row; have := (y1.lt b2 e.symm).1; have := unhide lR; omega)).trans (unhide R2))
            replace R4 := hide ((g6.block b4 (heap_lt (unhide R4)) (fun e => by obtain ⟨ys, y1, _⟩ := (unhide SGk).row; have := (y1.lt b4 e.symm).1; have := unhide lR; omega)).trans (unhide R4))
            replace R6 := hide ((g6.block b6 (heap_lt (unhide R6)) (fun e => by obtain ⟨ys, y1, _⟩ := (unhide SGk).row; have := (y1.lt b6 e.symm).2; have := unhide SGlt; have := unhide lR; have := (unhide SGk).apt.row b6 e.symm; omega)).trans (unhide R6))
            replace HB := hide ((unhide HB).grown g6 (unhide HB).size (fun q hq => by obtain ⟨ys, y1, _⟩ := (unhide SGk).row; have := (y1.lt q hq).1; have := unhide lR; omega))
            refine hK.out _ _ ?_ (fun hHeld => ?_)
            · exact ⟨row1 (unhide R1), rowRng (unhide R2)⟩
            clear hK K
            try simp only [Act.put, List.setIfInBounds_toArray, List.set_cons_zero, List.set_cons_succ]
            replace SGn := hide SGn
            clear g6
            refine wpAnyH_take (i := 6) (oi := { dst := some 21, op := Op.fieldAddr 26 (Operand.tmp 6) 0, type := 0, pos := "l16_change.go:30", after := #[{ on := 0, ground := Ground.phase }, { on := 1, ground := Ground.phase }, { on := 2, ground := Ground.phase }, { on := 3, ground := Ground.phase }, { on := 4, ground := Ground.phase }, { on := 5, ground := Ground.phase }], guard := none }) (v := ?_) rfl (by kernel_rfl) (by kernel_rfl) (by kernel_rfl) (fun _ _ _ h => h) (Or.inl ⟨by rfl, ?_⟩) (by assumption) ?_
            rotate_left
            · intro w hSw; (try dsimp only at hSw); go_simp <;> with_reducible rfl
            try simp only [Act.put, List.setIfInBounds_toArray, List.set_cons_zero, List.set_cons_succ]
            refine wpAnyH_ready (rs := [7]) (by kernel_rfl) (by simp) ?_
            refine AllReadyH.cons (o := { dst := none, op := Op.store 24 (Operand.tmp 21) (Operand.tmp 20), type := 0, pos := "l16_change.go:30", after := #[{ on := 6, ground := Ground.data }, { on := 5, ground := Ground.data }, { on := 5, ground := Ground.chain }, { on := 0, ground := Ground.phase }, { on := 1, ground := Ground.phase }, { on := 2, ground := Ground.phase }, { on := 3, ground := Ground.phase }, { on := 4, ground := Ground.phase }, { on := 5, ground := Ground.phase }], guard := none }) rfl (fun K hK => ?_) ?_
            · have cb := row1 (unhide R6)
              have fb := frozen_of_row V5 b6 0 _ _ (unhide R6)
              go_simp
              have R6x := hide (show (V5.setCell ⟨b6, 0, none⟩ (.slice p' (n + 1) c')).heap[b6]? = some (.cells #[(.slice p' (n + 1) c')] 26 (0, 0)) by have := setC (v := (.slice p' (n + 1) c')) (j := 0) (unhide R6); simpa using this)
              replace R1 := hide (setc_other (b := b6) (j := 0) (v := (.slice p' (n + 1) c')) (by have := unhide lR; omega) (unhide R1))
              replace R2 := hide (setc_other (b := b6) (j := 0) (v := (.slice p' (n + 1) c')) (by have := unhide lR; omega) (unhide R2))
              replace R4 := hide (setc_other (b := b6) (j := 0) (v := (.slice p' (n + 1) c')) (by have := unhide lR; omega) (unhide R4))
              have R6o := R6
              replace R6 := R6x
              clear R6x cb fb
              replace HB := hide ((unhide HB).setCell (p := ⟨b6, 0, none⟩) (by have := unhide lR; dsimp only; omega) (.slice p' (n + 1) c'))
              replace SGn := hide (show SG (V5.setCell ⟨b6, 0, none⟩ (.slice p' (n + 1) c')) B0 (V5.setCell ⟨b6, 0, none⟩ (.slice p' (n + 1) c')).heap.size p' (n + 1) c' (upd X n x) (upd A' n s') by have h := (unhide SGn).setk (j := 0) (v := (.slice p' (n + 1) c')) (unhide R6o); simpa [World.setCell] using h)
              clear R6o
              refine hK.out _ _ ?_ (fun hHeld => ?_)
              · exact ⟨row1 (unhide R1), rowRng (unhide R2)⟩
              clear hK K
              try simp only [Act.put, List.setIfInBounds_toArray, List.set_cons_zero, List.set_cons_succ]
              refine wpAnyH_done (by kernel_rfl) ?_ _
              have SGf := hide (show SG (V5.setCell ⟨b6, 0, none⟩ (.slice p' (n + 1) c')) B0 (V5.setCell ⟨b6, 0, none⟩ (.slice p' (n + 1) c')).heap.size p' (n + 1) c' (upd X n x) (upd A' n s') from unhide SGn)
              clear SGn SGk
              have ET := hide (show ErrT (V5.setCell ⟨b6, 0, none⟩ (.slice p' (n + 1) c')) from (unhide hg).next (unhide HB))
              go_upto_region 5 with fail
              generalize (V5.setCell ⟨b6, 0, none⟩ (.slice p' (n + 1) c')) = WF at R1 R4 R6 HB SGf ET ⊢
              clear R2
              refine wp_region_held_drew (S := (fun u => u.cell? ⟨b6, 0, none⟩ = some (.slice p' (n + 1) c'))) (by kernel_rfl) ?_ (fun hHeld => ?_)
              · exact row1 (unhide R6)
              have hdr := hide (show Below WF.heap.size WF WF.drew from (Below.refl _ _).drew)
              replace R1 := hide (row_next (unhide hdr) (unhide R1))
              replace R4 := hide (row_next (unhide hdr) (unhide R4))
              replace R6 := hide (row_next (unhide hdr) (unhide R6))
              replace HB := hide (below_two (unhide HB) (unhide hdr))
              replace SGf := hide (show SG WF.drew B0 WF.drew.heap.size p' (n + 1) c' (upd X n x) (upd A' n s') from (unhide SGf).next (unhide hdr))
              replace ET := hide ((unhide ET).next (unhide hdr))
              clear hdr
              generalize WF.drew = VF at R1 R4 R6 HB SGf ET hHeld ⊢
              refine wpAnyH_take (i := 0) (oi := { dst := some 22, op := Op.load 26 (Operand.tmp 6), type := 26, pos := "l16_change.go:32", after := #[], guard := none }) (v := ?_) rfl (by kernel_rfl) (by kernel_rfl) (by kernel_rfl) (fun _ _ _ h => h) (Or.inl ⟨by rfl, ?_⟩) (by assumption) ?_
              rotate_left
              · intro w hSw; (try dsimp only at hSw); go_simp <;> with_reducible rfl
              try simp only [Act.put, List.setIfInBounds_toArray, List.set_cons_zero, List.set_cons_succ]
              refine wpAnyH_take (i := 1) (oi := { dst := some 23, op := Op.move (Operand.tmp 7), type := 84, pos := "l16_change.go:32", after := #[], guard := none }) (v := ?_) rfl (by kernel_rfl) (by kernel_rfl) (by kernel_rfl) (fun _ _ _ h => h) (Or.inl ⟨by rfl, ?_⟩) (by assumption) ?_
              rotate_left
              · intro w hSw; (try dsimp only at hSw); go_simp <;> with_reducible rfl
              try simp only [Act.put, List.setIfInBounds_toArray, List.set_cons_zero, List.set_cons_succ]
              refine wpAnyH_ready (rs := [2]) (by kernel_rfl) (by simp) ?_
              refine AllReadyH.cons (o := { dst := some 24, op := Op.call { callee := Callee.value (Operand.func 44), args := #[Operand.tmp 23], argTypes := #[84] }, type := 3, pos := "l16_change.go:32", after := #[{ on := 1, ground := Ground.data }], guard := none }) rfl (fun K hK => ?_) ?_
              · go_simp
                (go_at_call 44; go_fit (unhide EK _ (unhide ET)); rintro r Y1 ⟨rfl, hb⟩)
                replace R1 := hide (row_next hb (unhide R1))
                replace R4 := hide (row_next hb (unhide R4))
                replace R6 := hide (row_next hb (unhide R6))
                replace HB := hide (below_two (unhide HB) hb)
                replace SGf := hide (((unhide SGf).next hb).high hb.size)
                replace ET := hide ((unhide ET).next hb)
                refine hK.out _ _ ?_ (fun hHeld => ?_)
                · exact row1 (unhide R6)
                clear hK K hb
                try simp only [Act.put, List.setIfInBounds_toArray, List.set_cons_zero, List.set_cons_succ]
                refine wpAnyH_ready (rs := [3]) (by kernel_rfl) (by simp) ?_
                refine AllReadyH.cons (o := { dst := none, op := Op.store 26 (Operand.tmp 4) (Operand.tmp 22), type := 0, pos := "l16_change.go:32", after := #[{ on := 0, ground := Ground.data }, { on := 2, ground := Ground.chain }, { on := 0, ground := Ground.phase }, { on := 1, ground := Ground.textOnly Departure.lateStores }, { on := 2, ground := Ground.textOnly Departure.lateStoresUnsure }], guard := none }) rfl (fun K hK => ?_) ?_
                · have cb := row1 (unhide R4)
                  have fb := frozen_of_row Y1 b4 0 _ _ (unhide R4)
                  go_simp
                  have dd := hide (show (Y1.setCell ⟨b4, 0, none⟩ (.slice p' (n + 1) c')).cell? ⟨b4, 0, none⟩ = some (.slice p' (n + 1) c') from World.cell?_setCell_same _ _ _ cb)
                  replace SGf := hide (show SG (Y1.setCell ⟨b4, 0, none⟩ (.slice p' (n + 1) c')) B0 (Y1.setCell ⟨b4, 0, none⟩ (.slice p' (n + 1) c')).heap.size p' (n + 1) c' (upd X n x) (upd A' n s') by have h := (unhide SGf).setk (j := 0) (v := .slice p' (n + 1) c') (unhide R4); simpa [World.setCell] using h)
                  replace R6 := hide (setc_other (b := b4) (j := 0) (v := .slice p' (n + 1) c') (by have := unhide lR; omega) (unhide R6))
                  replace HB := hide ((unhide HB).setCell (p := ⟨b4, 0, none⟩) (by have := unhide lR; dsimp only; omega) (.slice p' (n + 1) c'))
                  replace ET := hide ((unhide ET).low (by have := unhide lR; have := unhide l0; omega) ((Below.refl b4 Y1).setCell (p := ⟨b4, 0, none⟩) (Nat.le_refl _) (.slice p' (n + 1) c')))
                  refine hK.out _ _ ?_ (fun hHeld => ?_)
                  · exact row1 (unhide R6)
                  clear hK K cb fb
                  try simp only [Act.put, List.setIfInBounds_toArray, List.set_cons_zero, List.set_cons_succ]
                  refine wpAnyH_take (i := 4) (oi := { dst := some 5, op := Op.assign (Operand.tmp 24), type := 3, pos := "l16_change.go:32", after := #[{ on := 2, ground := Ground.data }, { on := 3, ground := Ground.chain }, { on := 0, ground := Ground.phase }, { on := 1, ground := Ground.phase }, { on := 2, ground := Ground.phase }, { on := 3, ground := Ground.phase }], guard := none }) (v := ?_) rfl (by kernel_rfl) (by kernel_rfl) (by kernel_rfl) (fun _ _ _ h => h) (Or.inl ⟨by rfl, ?_⟩) (by assumption) ?_
                  rotate_left
                  · intro w hSw; (try dsimp only at hSw); go_simp <;> with_reducible rfl
                  try simp only [Act.put, List.setIfInBounds_toArray, List.set_cons_zero, List.set_cons_succ]
                  refine wpAnyH_done (by kernel_rfl) ?_ _
                  have d0 := unhide dd
                  go_wp2_with fail
                  exact bodyPost_ret (v := .tuple #[.agg #[.slice p' (n + 1) c'], .int .i64 0]) (by simp [results, Tryz.results12, go_sem, d0]) rfl (by obtain ⟨e1, e2⟩ := unhide hM1 (by trivial); rw [e1, e2]; exact ⟨p', c', (upd A' n s'), rfl, (unhide SGf).low (unhide lB0), unhide HB⟩)
                exact AllReadyH.nil
              exact AllReadyH.nil
            exact AllReadyH.nil
          exact AllReadyH.nil
        exact AllReadyH.nil
      exact AllReadyH.nil
    exact AllReadyH.nil
end Go.Proofs.YtmafopckplpajaaGreatDoor

/-
  The specification's copies of paths and nodes. (By copys.py.)
-/
namespace Go.Proofs.YtmafopckplpajaaGreatDoor
open Go.RowKit
set_option linter.unusedVariables false

/-- 'append' onto an empty list of one's own, in a region that draws. -/
theorem wp_append_ints {oo : Oper} {a : Act} {K : Act → World → Prop} {Q : Exit → Act → World → Prop} {V : World} {B : Nat} (s y : Operand)
    (hop : oo.op = .call { callee := .builtin .append, args := #[s, y], argTypes := #[30, 30] })
    (e : Nat) (hWe : B ≤ e) (he : V.heap[e]? = some (.cells #[] 3 (0, 0))) (hB : B ≤ V.heap.size) (hs : a.eval s = .slice (some ⟨e, 0, none⟩) 0 0)
    (ao : Option Addr) (n c : Nat) (f : Nat → Int) (hx : a.eval y = .slice ao n c) (hc : n ≤ c ∧ (ao = none → c = 0)) (H : ∀ i, i < n → IntAt V ao i (f i)) (hn : n ≤ 1048576)
    (hK : ∀ p' c' w', OwnI w' B (.slice p' n c') n f → V.grownBy w' (some e) → K (a.put oo.dst (.slice p' n c')) w') :
    Oper.wp Tryz.prog oo a V K Q := by
  obtain ⟨i, hi, hz, hsize, hby⟩ := info_parts Tryz.info3
  have hown : V.ownsRow B 3 1 (.slice (some ⟨e, 0, none⟩) 0 0) 0 [] := ⟨rfl, .inr ⟨e, 0, #[], rfl, hWe, he, Nat.le_refl _, Nat.zero_le _, rfl, rfl⟩⟩
  cases ao with
  | none =>
    obtain rfl := hc.2 rfl
    obtain rfl : n = 0 := by omega
    have hrun := run_append_owned_none (P := Tryz.prog) (w := V) B 30 oo.type 3 i 1 Tryz.underlying30 hi _ 0 [] hown
    unfold Oper.wp
    simp [execOp, hop, resolve, invoke, builtin, hs, hx, hrun, Result.andThen]
    exact hK _ _ _ ⟨[], hown, fun j hj => absurd hj (by omega)⟩ ⟨rfl, rfl, rfl, Nat.le_refl _, fun _ _ _ => rfl⟩
  | some ad =>
    have VE : ∀ j u, (isL1 f n)[j]? = some u → V.cell? (ad.add j) = some u := by
      rcases Nat.eq_zero_or_pos n with h0 | h0
      · subst h0; intro j u hu; simp [isL1] at hu
      · obtain ⟨s0, o0, e, _⟩ := H 0 h0
        cases e
        exact isL1_cells H
    refine wp_append_own V s y 30 hop B 3 i (.int .i64 0) 1 8 Tryz.underlying30 hi hz hsize hby rfl (by decide) _ 0 [] hs hown ad n c (isL1 f n) hx (isL1_len f n) VE (isL1_one f n) (by unfold maxLen; omega) (by omega) hB ?_
    intro v' w' ho' hg' _
    rw [Nat.zero_add, List.nil_append] at ho'
    obtain ⟨p', c', rfl⟩ := own_form ho'
    exact hK p' c' w' ⟨_, ho', isL1_at f n⟩ hg'
theorem step_append_ints {ops : Array Oper} {oo : Oper} {a : Act} {K : Act → World → Prop} {Q : Exit → Act → World → Prop} {E : Prop} {V : World} {B : Nat} (hg : oo.guard = none) (s y : Operand)
    (hop : oo.op = .call { callee := .builtin .append, args := #[s, y], argTypes := #[30, 30] })
    (e : Nat) (hWe : B ≤ e) (he : V.heap[e]? = some (.cells #[] 3 (0, 0))) (hB : B ≤ V.heap.size) (hs : a.eval s = .slice (some ⟨e, 0, none⟩) 0 0)
    (ao : Option Addr) (n c : Nat) (f : Nat → Int) (hx : a.eval y = .slice ao n c) (hc : n ≤ c ∧ (ao = none → c = 0)) (H : ∀ i, i < n → IntAt V ao i (f i)) (hn : n ≤ 1048576)
    (hK : ∀ p' c' w', OwnI w' B (.slice p' n c') n f → V.grownBy w' (some e) → K (a.put oo.dst (.slice p' n c')) w') :
    if Region.wanted oo (yielded ops a.tmps) = true then Oper.wp Tryz.prog oo a V K Q else E := by
  have hw : Region.wanted oo (yielded ops a.tmps) = true := by simp [Region.wanted, hg]
  rw [if_pos hw]
  exact wp_append_ints s y hop e hWe he hB hs ao n c f hx hc H hn hK

/-- 'append' onto an empty list of one's own, in a region that draws. -/
theorem wp_append_points {oo : Oper} {a : Act} {K : Act → World → Prop} {Q : Exit → Act → World → Prop} {V : World} {B : Nat} (s y : Operand)
    (hop : oo.op = .call { callee := .builtin .append, args := #[s, y], argTypes := #[31, 31] })
    (e : Nat) (hWe : B ≤ e) (he : V.heap[e]? = some (.cells #[] 37 (0, 0))) (hB : B ≤ V.heap.size) (hs : a.eval s = .slice (some ⟨e, 0, none⟩) 0 0)
    (ao : Option Addr) (n c : Nat) (f : Nat → Int × Int) (hx : a.eval y = .slice ao n c) (hc : n ≤ c ∧ (ao = none → c = 0)) (H : ∀ i, i < n → PtArg V ao i (f i)) (hn : n ≤ 1048576)
    (hK : ∀ p' c' w', OwnP w' B (.slice p' n c') n f → V.grownBy w' (some e) → K (a.put oo.dst (.slice p' n c')) w') :
    Oper.wp Tryz.prog oo a V K Q := by
  obtain ⟨i, hi, hz, hsize, hby⟩ := info_parts infoPoint
  have hown : V.ownsRow B 37 2 (.slice (some ⟨e, 0, none⟩) 0 0) 0 [] := ⟨rfl, .inr ⟨e, 0, #[], rfl, hWe, he, Nat.le_refl _, Nat.zero_le _, rfl, rfl⟩⟩
  cases ao with
  | none =>
    obtain rfl := hc.2 rfl
    obtain rfl : n = 0 := by omega
    have hrun := run_append_owned_none (P := Tryz.prog) (w := V) B 31 oo.type 37 i 2 Tryz.underlying31 hi _ 0 [] hown
    unfold Oper.wp
    simp [execOp, hop, resolve, invoke, builtin, hs, hx, hrun, Result.andThen]
    exact hK _ _ _ ⟨[], hown, fun j hj => absurd hj (by omega)⟩ ⟨rfl, rfl, rfl, Nat.le_refl _, fun _ _ _ => rfl⟩
  | some ad =>
    have VE : ∀ j u, (isL2 f n)[j]? = some u → V.cell? (ad.add j) = some u := by
      rcases Nat.eq_zero_or_pos n with h0 | h0
      · subst h0; intro j u hu; simp [isL2] at hu
      · obtain ⟨s0, o0, e, _⟩ := H 0 h0
        cases e
        exact isL2_cells H
    refine wp_append_own V s y 31 hop B 37 i (.agg #[.int .i64 0, .int .i64 0]) 2 16 Tryz.underlying31 hi hz hsize hby rfl (by decide) _ 0 [] hs hown ad n c (isL2 f n) hx (isL2_len f n) VE (isL2_one f n) (by unfold maxLen; omega) (by omega) hB ?_
    intro v' w' ho' hg' _
    rw [Nat.zero_add, List.nil_append] at ho'
    obtain ⟨p', c', rfl⟩ := own_form ho'
    exact hK p' c' w' ⟨_, ho', isL2_at f n⟩ hg'
theorem step_append_points {ops : Array Oper} {oo : Oper} {a : Act} {K : Act → World → Prop} {Q : Exit → Act → World → Prop} {E : Prop} {V : World} {B : Nat} (hg : oo.guard = none) (s y : Operand)
    (hop : oo.op = .call { callee := .builtin .append, args := #[s, y], argTypes := #[31, 31] })
    (e : Nat) (hWe : B ≤ e) (he : V.heap[e]? = some (.cells #[] 37 (0, 0))) (hB : B ≤ V.heap.size) (hs : a.eval s = .slice (some ⟨e, 0, none⟩) 0 0)
    (ao : Option Addr) (n c : Nat) (f : Nat → Int × Int) (hx : a.eval y = .slice ao n c) (hc : n ≤ c ∧ (ao = none → c = 0)) (H : ∀ i, i < n → PtArg V ao i (f i)) (hn : n ≤ 1048576)
    (hK : ∀ p' c' w', OwnP w' B (.slice p' n c') n f → V.grownBy w' (some e) → K (a.put oo.dst (.slice p' n c')) w') :
    if Region.wanted oo (yielded ops a.tmps) = true then Oper.wp Tryz.prog oo a V K Q else E := by
  have hw : Region.wanted oo (yielded ops a.tmps) = true := by simp [Region.wanted, hg]
  rw [if_pos hw]
  exact wp_append_points s y hop e hWe he hB hs ao n c f hx hc H hn hK

theorem OwnI.keptE {w u : World} {base n e : Nat} {v : Value} {f : Nat → Int} (h : OwnI w base v n f) (hg : w.grownBy u (some e)) (he : w.heap[e]? = some (.cells #[] 37 (0, 0))) : OwnI u base v n f := by
  obtain ⟨xs, h1, h2⟩ := h
  have hown : w.ownsRow 0 37 2 (.slice (some ⟨e, 0, none⟩) 0 0) 0 [] := ⟨rfl, .inr ⟨e, 0, #[], rfl, Nat.zero_le _, he, Nat.le_refl _, Nat.zero_le _, rfl, rfl⟩⟩
  refine ⟨xs, h1.kept hg ?_, h2⟩
  cases hk : v.ownBlock with
  | none => exact .inl rfl
  | some k => exact .inr fun e' => own_kind h1 hown (by decide) k hk e'.symm
theorem OwnP.keptE {w u : World} {base n e : Nat} {v : Value} {f : Nat → Int × Int} (h : OwnP w base v n f) (hg : w.grownBy u (some e)) (he : w.heap[e]? = some (.cells #[] 3 (0, 0))) : OwnP u base v n f := by
  obtain ⟨xs, h1, h2⟩ := h
  have hown : w.ownsRow 0 3 1 (.slice (some ⟨e, 0, none⟩) 0 0) 0 [] := ⟨rfl, .inr ⟨e, 0, #[], rfl, Nat.zero_le _, he, Nat.le_refl _, Nat.zero_le _, rfl, rfl⟩⟩
  refine ⟨xs, h1.kept hg ?_, h2⟩
  cases hk : v.ownBlock with
  | none => exact .inl rfl
  | some k => exact .inr fun e' => own_kind h1 hown (by decide) k hk e'.symm

set_option maxHeartbeats 8000000 in
set_option maxRecDepth 100000 in
theorem specCopyPath_any (vf : Nat → Int) (pf : Nat → Int × Int) (ao bo : Option Addr) (n c m d : Nat) (hn : n ≤ 1048576) (hm : m ≤ 1048576) (hc : n ≤ c ∧ (ao = none → c = 0)) (hd : m ≤ d ∧ (bo = none → d = 0)) (w : World)
    (VV : ∀ i, i < n → IntAt w ao i (vf i)) (PP : ∀ i, i < m → PtArg w bo i (pf i)) :
    Calls Tryz.prog 109 #[.agg #[.slice ao n c, .slice bo m d]] w fun r w' => ∃ a' c' b' d', r = .returned (.agg #[.slice a' n c', .slice b' m d']) ∧ OwnI w' w.heap.size (.slice a' n c') n vf ∧ OwnP w' w.heap.size (.slice b' m d') m pf ∧ Below w.heap.size w w' := by
  replace VV := hide VV
  replace PP := hide PP
  go_enter Tryz.func109, Tryz.ntmps109
  go_upto_region 1 with fail
  have R1 := hide (al2_0 w (.cells #[.slice ao n c, .slice bo m d] 33) (.cells #[.slice none 0 0, .slice none 0 0] 33))
  have R2 := hide (al2_1 w (.cells #[.slice ao n c, .slice bo m d] 33) (.cells #[.slice none 0 0, .slice none 0 0] 33))
  have HW := hide (al2_below w (.cells #[.slice ao n c, .slice bo m d] 33) (.cells #[.slice none 0 0, .slice none 0 0] 33))
  obtain ⟨b2, hb2⟩ : ∃ b, Hid (b = w.heap.size + 1) := ⟨_, rfl⟩
  obtain ⟨b1, hb1⟩ : ∃ b, Hid (b = w.heap.size) := ⟨_, rfl⟩
  have lw : Hid (b1 < b2 ∧ w.heap.size ≤ b2) := by unfold Hid; rw [unhide hb2, unhide hb1]; omega
  rw [← unhide hb2] at R2
  rw [← unhide hb1] at R1
  rw [← unhide hb2, ← unhide hb1]
  generalize (w.alloc (.cells #[.slice ao n c, .slice bo m d] 33)).alloc (.cells #[.slice none 0 0, .slice none 0 0] 33) = W at R1 R2 HW ⊢
  clear hb2 hb1
  have l2 := hide (show b2 < W.heap.size from heap_lt (unhide R2))
  have lb := hide (show b1 < W.heap.size ∧ b2 < W.heap.size from ⟨heap_lt (unhide R1), heap_lt (unhide R2)⟩)
  have nb := hide (show b1 ≠ b2 by have := unhide lw; omega)
  have ne1 : ¬ b1 = b2 := unhide nb
  have ne2 : ¬ b2 = b1 := fun e => ne1 e.symm
  refine wp_region_held_drew (S := (fun u => u.cell? ⟨b1, 0, none⟩ = some (.slice ao n c) ∧ u.cell? ⟨b1, 1, none⟩ = some (.slice bo m d))) (by kernel_rfl) ?_ (fun hHeld => ?_)
  · exact row2 (unhide R1)
  have HB := hide (show Below W.heap.size W W.drew from (Below.refl _ _).drew)
  replace R1 := hide (row_next (unhide HB) (unhide R1))
  replace R2 := hide (row_next (unhide HB) (unhide R2))
  generalize W.drew = V0 at R1 R2 HB hHeld ⊢
  refine wpAnyH_take (i := 1) (oi := { dst := some 4, op := Op.fieldAddr 33 (Operand.tmp 1) 0, type := 0, pos := "l15_scene.go:100", after := #[], guard := none }) (v := ?_) rfl (by kernel_rfl) (by kernel_rfl) (by kernel_rfl) (fun _ _ _ h => h) (Or.inl ⟨by rfl, ?_⟩) (by assumption) ?_
  rotate_left
  · intro w hSw; (try dsimp only at hSw); go_simp <;> with_reducible rfl
  try simp only [Act.put, List.setIfInBounds_toArray, List.set_cons_zero, List.set_cons_succ]
  refine wpAnyH_take (i := 2) (oi := { dst := some 5, op := Op.load 30 (Operand.tmp 4), type := 30, pos := "l15_scene.go:100", after := #[{ on := 1, ground := Ground.data }], guard := none }) (v := ?_) rfl (by kernel_rfl) (by kernel_rfl) (by kernel_rfl) (fun _ _ _ h => h) (Or.inl ⟨by rfl, ?_⟩) (by assumption) ?_
  rotate_left
  · intro w hSw; (try dsimp only at hSw); go_simp <;> with_reducible rfl
  try simp only [Act.put, List.setIfInBounds_toArray, List.set_cons_zero, List.set_cons_succ]
  refine wpAnyH_take (i := 5) (oi := { dst := some 8, op := Op.fieldAddr 33 (Operand.tmp 1) 1, type := 0, pos := "l15_scene.go:100", after := #[], guard := none }) (v := ?_) rfl (by kernel_rfl) (by kernel_rfl) (by kernel_rfl) (fun _ _ _ h => h) (Or.inl ⟨by rfl, ?_⟩) (by assumption) ?_
  rotate_left
  · intro w hSw; (try dsimp only at hSw); go_simp <;> with_reducible rfl
  try simp only [Act.put, List.setIfInBounds_toArray, List.set_cons_zero, List.set_cons_succ]
  refine wpAnyH_take (i := 6) (oi := { dst := some 9, op := Op.load 31 (Operand.tmp 8), type := 31, pos := "l15_scene.go:100", after := #[{ on := 5, ground := Ground.data }], guard := none }) (v := ?_) rfl (by kernel_rfl) (by kernel_rfl) (by kernel_rfl) (fun _ _ _ h => h) (Or.inl ⟨by rfl, ?_⟩) (by assumption) ?_
  rotate_left
  · intro w hSw; (try dsimp only at hSw); go_simp <;> with_reducible rfl
  try simp only [Act.put, List.setIfInBounds_toArray, List.set_cons_zero, List.set_cons_succ]
  refine wpAnyH_ready (rs := [0, 4]) (by kernel_rfl) (by simp) ?_
  refine AllReadyH.cons (o := { dst := some 3, op := Op.buildSlice 30 0 #[], type := 30, pos := "l15_scene.go:100", after := #[], guard := none }) rfl (fun K hK => ?_) ?_
  · go_simp
    replace R1 := hide (row_next (al1_below V0 (.cells #[] 3)) (unhide R1))
    replace R2 := hide (row_next (al1_below V0 (.cells #[] 3)) (unhide R2))
    refine hK.out _ _ ?_ (fun hHeld => ?_)
    · exact row2 (unhide R1)
    clear hK K
    try simp only [Act.put, List.setIfInBounds_toArray, List.set_cons_zero, List.set_cons_succ]
    have RE := hide (new_row V0 (.cells #[] 3))
    have le := hide (unhide HB).size
    replace HB := hide (below_two (unhide HB) (al1_below V0 (.cells #[] 3)))
    generalize V0.alloc (.cells #[] 3) = V1 at R1 R2 RE HB hHeld ⊢
    generalize V0.heap.size = ee at RE le ⊢
    refine wpAnyH_ready (rs := [3, 4]) (by kernel_rfl) (by simp) ?_
    refine AllReadyH.cons (o := { dst := some 6, op := Op.call { callee := Callee.builtin Builtin.append, args := #[Operand.tmp 3, Operand.tmp 5], argTypes := #[30, 30] }, type := 30, pos := "l15_scene.go:100", after := #[{ on := 0, ground := Ground.data }, { on := 2, ground := Ground.data }], guard := none }) rfl (fun K hK => ?_) ?_
    · refine step_append_ints rfl _ _ rfl ee (unhide le) (unhide RE) (unhide HB).size rfl ao n c vf rfl hc (fun i hi => (unhide VV i hi).next (below_two (unhide HW) (unhide HB))) hn ?_
      intro p6 c6 V2 oI g6
      replace R1 := hide ((g6.block b1 (heap_lt (unhide R1)) (fun e => by cases e; have := unhide le; have := unhide lb; omega)).trans (unhide R1))
      replace R2 := hide ((g6.block b2 (heap_lt (unhide R2)) (fun e => by cases e; have := unhide le; have := unhide lb; omega)).trans (unhide R2))
      replace HB := hide ((unhide HB).grown g6 (unhide HB).size (fun k hk => by cases hk; exact unhide le))
      refine hK.out _ _ ?_ (fun hHeld => ?_)
      · exact row2 (unhide R1)
      clear hK K RE g6
      try simp only [Act.put, List.setIfInBounds_toArray, List.set_cons_zero, List.set_cons_succ]
      replace oI := hide oI
      refine wpAnyH_ready (rs := [4]) (by kernel_rfl) (by simp) ?_
      refine AllReadyH.cons (o := { dst := some 7, op := Op.buildSlice 31 0 #[], type := 31, pos := "l15_scene.go:100", after := #[], guard := none }) rfl (fun K hK => ?_) ?_
      · go_simp
        replace R1 := hide (row_next (al1_below V2 (.cells #[] 37)) (unhide R1))
        replace R2 := hide (row_next (al1_below V2 (.cells #[] 37)) (unhide R2))
        replace oI := hide ((unhide oI).next (al1_below V2 (.cells #[] 37)))
        refine hK.out _ _ ?_ (fun hHeld => ?_)
        · exact row2 (unhide R1)
        clear hK K
        try simp only [Act.put, List.setIfInBounds_toArray, List.set_cons_zero, List.set_cons_succ]
        have RZ := hide (new_row V2 (.cells #[] 37))
        have lz := hide (unhide HB).size
        replace HB := hide (below_two (unhide HB) (al1_below V2 (.cells #[] 37)))
        generalize V2.alloc (.cells #[] 37) = V3 at R1 R2 oI RZ HB hHeld ⊢
        generalize V2.heap.size = zz at RZ lz ⊢
        refine wpAnyH_ready (rs := [7]) (by kernel_rfl) (by simp) ?_
        refine AllReadyH.cons (o := { dst := some 10, op := Op.call { callee := Callee.builtin Builtin.append, args := #[Operand.tmp 7, Operand.tmp 9], argTypes := #[31, 31] }, type := 31, pos := "l15_scene.go:100", after := #[{ on := 4, ground := Ground.data }, { on := 6, ground := Ground.data }, { on := 3, ground := Ground.chain }], guard := none }) rfl (fun K hK => ?_) ?_
        · refine step_append_points rfl _ _ rfl zz (unhide lz) (unhide RZ) (unhide HB).size rfl bo m d pf rfl hd (fun i hi => (unhide PP i hi).next (below_two (unhide HW) (unhide HB))) hm ?_
          intro p7 c7 V4 oP g6
          replace R1 := hide ((g6.block b1 (heap_lt (unhide R1)) (fun e => by cases e; have := unhide lz; have := unhide lb; omega)).trans (unhide R1))
          replace R2 := hide ((g6.block b2 (heap_lt (unhide R2)) (fun e => by cases e; have := unhide lz; have := unhide lb; omega)).trans (unhide R2))
          replace oI := hide ((unhide oI).keptE g6 (unhide RZ))
          replace HB := hide ((unhide HB).grown g6 (unhide HB).size (fun k hk => by cases hk; exact unhide lz))
          refine hK.out _ _ ?_ (fun hHeld => ?_)
          · exact row2 (unhide R1)
          clear hK K RZ g6
          try simp only [Act.put, List.setIfInBounds_toArray, List.set_cons_zero, List.set_cons_succ]
          replace oP := hide oP
          refine wpAnyH_take (i := 8) (oi := { dst := some 11, op := Op.build 33 #[(0, Operand.tmp 6), (1, Operand.tmp 10)], type := 33, pos := "l15_scene.go:100", after := #[{ on := 3, ground := Ground.data }, { on := 7, ground := Ground.data }], guard := none }) (v := ?_) rfl (by kernel_rfl) (by kernel_rfl) (by kernel_rfl) (fun _ _ _ h => h) (Or.inl ⟨by rfl, ?_⟩) (by assumption) ?_
          rotate_left
          · intro w hSw; (try dsimp only at hSw); go_simp <;> with_reducible rfl
          try simp only [Act.put, List.setIfInBounds_toArray, List.set_cons_zero, List.set_cons_succ]
          refine wpAnyH_ready (rs := [9]) (by kernel_rfl) (by simp) ?_
          refine AllReadyH.cons (o := { dst := none, op := Op.store 33 (Operand.tmp 2) (Operand.tmp 11), type := 0, pos := "l15_scene.go:100", after := #[{ on := 8, ground := Ground.data }, { on := 7, ground := Ground.chain }, { on := 0, ground := Ground.phase }, { on := 1, ground := Ground.phase }, { on := 2, ground := Ground.phase }, { on := 3, ground := Ground.phase }, { on := 4, ground := Ground.phase }, { on := 5, ground := Ground.phase }, { on := 6, ground := Ground.phase }, { on := 7, ground := Ground.phase }, { on := 8, ground := Ground.phase }], guard := none }) rfl (fun K hK => ?_) ?_
          · obtain ⟨e0, e1⟩ := row2 (unhide R2)
            obtain ⟨f0, f1⟩ := free2 (unhide R2)
            go_simp
            refine hK.out _ _ ?_ (fun hHeld => ?_)
            · exact row2 (put2_other (unhide nb) (unhide R1))
            clear hK K
            try simp only [Act.put, List.setIfInBounds_toArray, List.set_cons_zero, List.set_cons_succ]
            refine wpAnyH_done (by kernel_rfl) ?_ _
            obtain ⟨g0, g1⟩ := row2 (put2_row (y0 := .slice p6 n c6) (y1 := .slice p7 m c7) (unhide R2))
            go_wp2_with fail
            refine bodyPost_ret (v := .agg #[.slice p6 n c6, .slice p7 m c7]) (by simp [results, Tryz.results109, go_sem, e0, e1]) rfl ⟨p6, c6, p7, c7, rfl, ?_, ?_, ?_⟩
            · exact (((unhide oI).setc (unhide l2)).setc (unhide l2)).low (unhide HW).size
            · exact (((unhide oP).setc (unhide l2)).setc (unhide l2)).low (unhide HW).size
            · exact below_put2 (below_two (unhide HW) (unhide HB)) (unhide lw).2 _ _
          exact AllReadyH.nil
        exact AllReadyH.nil
      exact AllReadyH.nil
    refine AllReadyH.cons (o := { dst := some 7, op := Op.buildSlice 31 0 #[], type := 31, pos := "l15_scene.go:100", after := #[], guard := none }) rfl (fun K hK => ?_) ?_
    · go_simp
      replace R1 := hide (row_next (al1_below V1 (.cells #[] 37)) (unhide R1))
      replace R2 := hide (row_next (al1_below V1 (.cells #[] 37)) (unhide R2))
      replace RE := hide (row_next (al1_below V1 (.cells #[] 37)) (unhide RE))
      refine hK.out _ _ ?_ (fun hHeld => ?_)
      · exact row2 (unhide R1)
      clear hK K
      try simp only [Act.put, List.setIfInBounds_toArray, List.set_cons_zero, List.set_cons_succ]
      have RZ := hide (new_row V1 (.cells #[] 37))
      have lz := hide (unhide HB).size
      replace HB := hide (below_two (unhide HB) (al1_below V1 (.cells #[] 37)))
      generalize V1.alloc (.cells #[] 37) = V5 at R1 R2 RE RZ HB hHeld ⊢
      generalize V1.heap.size = zz at RZ lz ⊢
      refine wpAnyH_ready (rs := [3]) (by kernel_rfl) (by simp) ?_
      refine AllReadyH.cons (o := { dst := some 6, op := Op.call { callee := Callee.builtin Builtin.append, args := #[Operand.tmp 3, Operand.tmp 5], argTypes := #[30, 30] }, type := 30, pos := "l15_scene.go:100", after := #[{ on := 0, ground := Ground.data }, { on := 2, ground := Ground.data }], guard := none }) rfl (fun K hK => ?_) ?_
      · refine step_append_ints rfl _ _ rfl ee (unhide le) (unhide RE) (unhide HB).size rfl ao n c vf rfl hc (fun i hi => (unhide VV i hi).next (below_two (unhide HW) (unhide HB))) hn ?_
        intro p6 c6 V6 oI g6
        replace R1 := hide ((g6.block b1 (heap_lt (unhide R1)) (fun e => by cases e; have := unhide le; have := unhide lb; omega)).trans (unhide R1))
        replace R2 := hide ((g6.block b2 (heap_lt (unhide R2)) (fun e => by cases e; have := unhide le; have := unhide lb; omega)).trans (unhide R2))
        replace RZ := hide ((g6.block zz (heap_lt (unhide RZ)) (fun e => by cases e; have h1 := unhide RE; rw [unhide RZ] at h1; cases h1)).trans (unhide RZ))
        replace HB := hide ((unhide HB).grown g6 (unhide HB).size (fun k hk => by cases hk; exact unhide le))
        refine hK.out _ _ ?_ (fun hHeld => ?_)
        · exact row2 (unhide R1)
        clear hK K RE g6
        try simp only [Act.put, List.setIfInBounds_toArray, List.set_cons_zero, List.set_cons_succ]
        replace oI := hide oI
        refine wpAnyH_ready (rs := [7]) (by kernel_rfl) (by simp) ?_
        refine AllReadyH.cons (o := { dst := some 10, op := Op.call { callee := Callee.builtin Builtin.append, args := #[Operand.tmp 7, Operand.tmp 9], argTypes := #[31, 31] }, type := 31, pos := "l15_scene.go:100", after := #[{ on := 4, ground := Ground.data }, { on := 6, ground := Ground.data }, { on := 3, ground := Ground.chain }], guard := none }) rfl (fun K hK => ?_) ?_
        · refine step_append_points rfl _ _ rfl zz (unhide lz) (unhide RZ) (unhide HB).size rfl bo m d pf rfl hd (fun i hi => (unhide PP i hi).next (below_two (unhide HW) (unhide HB))) hm ?_
          intro p7 c7 V7 oP g6
          replace R1 := hide ((g6.block b1 (heap_lt (unhide R1)) (fun e => by cases e; have := unhide lz; have := unhide lb; omega)).trans (unhide R1))
          replace R2 := hide ((g6.block b2 (heap_lt (unhide R2)) (fun e => by cases e; have := unhide lz; have := unhide lb; omega)).trans (unhide R2))
          replace oI := hide ((unhide oI).keptE g6 (unhide RZ))
          replace HB := hide ((unhide HB).grown g6 (unhide HB).size (fun k hk => by cases hk; exact unhide lz))
          refine hK.out _ _ ?_ (fun hHeld => ?_)
          · exact row2 (unhide R1)
          clear hK K RZ g6
          try simp only [Act.put, List.setIfInBounds_toArray, List.set_cons_zero, List.set_cons_succ]
          replace oP := hide oP
          refine wpAnyH_take (i := 8) (oi := { dst := some 11, op := Op.build 33 #[(0, Operand.tmp 6), (1, Operand.tmp 10)], type := 33, pos := "l15_scene.go:100", after := #[{ on := 3, ground := Ground.data }, { on := 7, ground := Ground.data }], guard := none }) (v := ?_) rfl (by kernel_rfl) (by kernel_rfl) (by kernel_rfl) (fun _ _ _ h => h) (Or.inl ⟨by rfl, ?_⟩) (by assumption) ?_
          rotate_left
          · intro w hSw; (try dsimp only at hSw); go_simp <;> with_reducible rfl
          try simp only [Act.put, List.setIfInBounds_toArray, List.set_cons_zero, List.set_cons_succ]
          refine wpAnyH_ready (rs := [9]) (by kernel_rfl) (by simp) ?_
          refine AllReadyH.cons (o := { dst := none, op := Op.store 33 (Operand.tmp 2) (Operand.tmp 11), type := 0, pos := "l15_scene.go:100", after := #[{ on := 8, ground := Ground.data }, { on := 7, ground := Ground.chain }, { on := 0, ground := Ground.phase }, { on := 1, ground := Ground.phase }, { on := 2, ground := Ground.phase }, { on := 3, ground := Ground.phase }, { on := 4, ground := Ground.phase }, { on := 5, ground := Ground.phase }, { on := 6, ground := Ground.phase }, { on := 7, ground := Ground.phase }, { on := 8, ground := Ground.phase }], guard := none }) rfl (fun K hK => ?_) ?_
          · obtain ⟨e0, e1⟩ := row2 (unhide R2)
            obtain ⟨f0, f1⟩ := free2 (unhide R2)
            go_simp
            refine hK.out _ _ ?_ (fun hHeld => ?_)
            · exact row2 (put2_other (unhide nb) (unhide R1))
            clear hK K
            try simp only [Act.put, List.setIfInBounds_toArray, List.set_cons_zero, List.set_cons_succ]
            refine wpAnyH_done (by kernel_rfl) ?_ _
            obtain ⟨g0, g1⟩ := row2 (put2_row (y0 := .slice p6 n c6) (y1 := .slice p7 m c7) (unhide R2))
            go_wp2_with fail
            refine bodyPost_ret (v := .agg #[.slice p6 n c6, .slice p7 m c7]) (by simp [results, Tryz.results109, go_sem, e0, e1]) rfl ⟨p6, c6, p7, c7, rfl, ?_, ?_, ?_⟩
            · exact (((unhide oI).setc (unhide l2)).setc (unhide l2)).low (unhide HW).size
            · exact (((unhide oP).setc (unhide l2)).setc (unhide l2)).low (unhide HW).size
            · exact below_put2 (below_two (unhide HW) (unhide HB)) (unhide lw).2 _ _
          exact AllReadyH.nil
        exact AllReadyH.nil
      exact AllReadyH.nil
    exact AllReadyH.nil
  refine AllReadyH.cons (o := { dst := some 7, op := Op.buildSlice 31 0 #[], type := 31, pos := "l15_scene.go:100", after := #[], guard := none }) rfl (fun K hK => ?_) ?_
  · go_simp
    replace R1 := hide (row_next (al1_below V0 (.cells #[] 37)) (unhide R1))
    replace R2 := hide (row_next (al1_below V0 (.cells #[] 37)) (unhide R2))
    refine hK.out _ _ ?_ (fun hHeld => ?_)
    · exact row2 (unhide R1)
    clear hK K
    try simp only [Act.put, List.setIfInBounds_toArray, List.set_cons_zero, List.set_cons_succ]
    have RZ := hide (new_row V0 (.cells #[] 37))
    have lz := hide (unhide HB).size
    replace HB := hide (below_two (unhide HB) (al1_below V0 (.cells #[] 37)))
    generalize V0.alloc (.cells #[] 37) = V8 at R1 R2 RZ HB hHeld ⊢
    generalize V0.heap.size = zz at RZ lz ⊢
    refine wpAnyH_ready (rs := [0]) (by kernel_rfl) (by simp) ?_
    refine AllReadyH.cons (o := { dst := some 3, op := Op.buildSlice 30 0 #[], type := 30, pos := "l15_scene.go:100", after := #[], guard := none }) rfl (fun K hK => ?_) ?_
    · go_simp
      replace R1 := hide (row_next (al1_below V8 (.cells #[] 3)) (unhide R1))
      replace R2 := hide (row_next (al1_below V8 (.cells #[] 3)) (unhide R2))
      replace RZ := hide (row_next (al1_below V8 (.cells #[] 3)) (unhide RZ))
      refine hK.out _ _ ?_ (fun hHeld => ?_)
      · exact row2 (unhide R1)
      clear hK K
      try simp only [Act.put, List.setIfInBounds_toArray, List.set_cons_zero, List.set_cons_succ]
      have RE := hide (new_row V8 (.cells #[] 3))
      have le := hide (unhide HB).size
      replace HB := hide (below_two (unhide HB) (al1_below V8 (.cells #[] 3)))
      generalize V8.alloc (.cells #[] 3) = V9 at R1 R2 RZ RE HB hHeld ⊢
      generalize V8.heap.size = ee at RE le ⊢
      refine wpAnyH_ready (rs := [3]) (by kernel_rfl) (by simp) ?_
      refine AllReadyH.cons (o := { dst := some 6, op := Op.call { callee := Callee.builtin Builtin.append, args := #[Operand.tmp 3, Operand.tmp 5], argTypes := #[30, 30] }, type := 30, pos := "l15_scene.go:100", after := #[{ on := 0, ground := Ground.data }, { on := 2, ground := Ground.data }], guard := none }) rfl (fun K hK => ?_) ?_
      · refine step_append_ints rfl _ _ rfl ee (unhide le) (unhide RE) (unhide HB).size rfl ao n c vf rfl hc (fun i hi => (unhide VV i hi).next (below_two (unhide HW) (unhide HB))) hn ?_
        intro p6 c6 V10 oI g6
        replace R1 := hide ((g6.block b1 (heap_lt (unhide R1)) (fun e => by cases e; have := unhide le; have := unhide lb; omega)).trans (unhide R1))
        replace R2 := hide ((g6.block b2 (heap_lt (unhide R2)) (fun e => by cases e; have := unhide le; have := unhide lb; omega)).trans (unhide R2))
        replace RZ := hide ((g6.block zz (heap_lt (unhide RZ)) (fun e => by cases e; have h1 := unhide RE; rw [unhide RZ] at h1; cases h1)).trans (unhide RZ))
        replace HB := hide ((unhide HB).grown g6 (unhide HB).size (fun k hk => by cases hk; exact unhide le))
        refine hK.out _ _ ?_ (fun hHeld => ?_)
        · exact row2 (unhide R1)
        clear hK K RE g6
        try simp only [Act.put, List.setIfInBounds_toArray, List.set_cons_zero, List.set_cons_succ]
        replace oI := hide oI
        refine wpAnyH_ready (rs := [7]) (by kernel_rfl) (by simp) ?_
        refine AllReadyH.cons (o := { dst := some 10, op := Op.call { callee := Callee.builtin Builtin.append, args := #[Operand.tmp 7, Operand.tmp 9], argTypes := #[31, 31] }, type := 31, pos := "l15_scene.go:100", after := #[{ on := 4, ground := Ground.data }, { on := 6, ground := Ground.data }, { on := 3, ground := Ground.chain }], guard := none }) rfl (fun K hK => ?_) ?_
        · refine step_append_points rfl _ _ rfl zz (unhide lz) (unhide RZ) (unhide HB).size rfl bo m d pf rfl hd (fun i hi => (unhide PP i hi).next (below_two (unhide HW) (unhide HB))) hm ?_
          intro p7 c7 V11 oP g6
          replace R1 := hide ((g6.block b1 (heap_lt (unhide R1)) (fun e => by cases e; have := unhide lz; have := unhide lb; omega)).trans (unhide R1))
          replace R2 := hide ((g6.block b2 (heap_lt (unhide R2)) (fun e => by cases e; have := unhide lz; have := unhide lb; omega)).trans (unhide R2))
          replace oI := hide ((unhide oI).keptE g6 (unhide RZ))
          replace HB := hide ((unhide HB).grown g6 (unhide HB).size (fun k hk => by cases hk; exact unhide lz))
          refine hK.out _ _ ?_ (fun hHeld => ?_)
          · exact row2 (unhide R1)
          clear hK K RZ g6
          try simp only [Act.put, List.setIfInBounds_toArray, List.set_cons_zero, List.set_cons_succ]
          replace oP := hide oP
          refine wpAnyH_take (i := 8) (oi := { dst := some 11, op := Op.build 33 #[(0, Operand.tmp 6), (1, Operand.tmp 10)], type := 33, pos := "l15_scene.go:100", after := #[{ on := 3, ground := Ground.data }, { on := 7, ground := Ground.data }], guard := none }) (v := ?_) rfl (by kernel_rfl) (by kernel_rfl) (by kernel_rfl) (fun _ _ _ h => h) (Or.inl ⟨by rfl, ?_⟩) (by assumption) ?_
          rotate_left
          · intro w hSw; (try dsimp only at hSw); go_simp <;> with_reducible rfl
          try simp only [Act.put, List.setIfInBounds_toArray, List.set_cons_zero, List.set_cons_succ]
          refine wpAnyH_ready (rs := [9]) (by kernel_rfl) (by simp) ?_
          refine AllReadyH.cons (o := { dst := none, op := Op.store 33 (Operand.tmp 2) (Operand.tmp 11), type := 0, pos := "l15_scene.go:100", after := #[{ on := 8, ground := Ground.data }, { on := 7, ground := Ground.chain }, { on := 0, ground := Ground.phase }, { on := 1, ground := Ground.phase }, { on := 2, ground := Ground.phase }, { on := 3, ground := Ground.phase }, { on := 4, ground := Ground.phase }, { on := 5, ground := Ground.phase }, { on := 6, ground := Ground.phase }, { on := 7, ground := Ground.phase }, { on := 8, ground := Ground.phase }], guard := none }) rfl (fun K hK => ?_) ?_
          · obtain ⟨e0, e1⟩ := row2 (unhide R2)
            obtain ⟨f0, f1⟩ := free2 (unhide R2)
            go_simp
            refine hK.out _ _ ?_ (fun hHeld => ?_)
            · exact row2 (put2_other (unhide nb) (unhide R1))
            clear hK K
            try simp only [Act.put, List.setIfInBounds_toArray, List.set_cons_zero, List.set_cons_succ]
            refine wpAnyH_done (by kernel_rfl) ?_ _
            obtain ⟨g0, g1⟩ := row2 (put2_row (y0 := .slice p6 n c6) (y1 := .slice p7 m c7) (unhide R2))
            go_wp2_with fail
            refine bodyPost_ret (v := .agg #[.slice p6 n c6, .slice p7 m c7]) (by simp [results, Tryz.results109, go_sem, e0, e1]) rfl ⟨p6, c6, p7, c7, rfl, ?_, ?_, ?_⟩
            · exact (((unhide oI).setc (unhide l2)).setc (unhide l2)).low (unhide HW).size
            · exact (((unhide oP).setc (unhide l2)).setc (unhide l2)).low (unhide HW).size
            · exact below_put2 (below_two (unhide HW) (unhide HB)) (unhide lw).2 _ _
          exact AllReadyH.nil
        exact AllReadyH.nil
      exact AllReadyH.nil
    exact AllReadyH.nil
  exact AllReadyH.nil

theorem wpList_append_ints {ops : Array Oper} {rest : List Oper} {oo : Oper} {a : Act} {Q : Exit → Act → World → Prop} {V : World} {B : Nat} (hgd : oo.guard = none) (s y : Operand)
    (hop : oo.op = .call { callee := .builtin .append, args := #[s, y], argTypes := #[30, 30] })
    (e : Nat) (hWe : B ≤ e) (he : V.heap[e]? = some (.cells #[] 3 (0, 0))) (hB : B ≤ V.heap.size) (hs : a.eval s = .slice (some ⟨e, 0, none⟩) 0 0)
    (ao : Option Addr) (n c : Nat) (f : Nat → Int) (hx : a.eval y = .slice ao n c) (hc : n ≤ c ∧ (ao = none → c = 0)) (H : ∀ i, i < n → IntAt V ao i (f i)) (hn : n ≤ 1048576)
    (h : ∀ p' c' w', OwnI w' B (.slice p' n c') n f → V.grownBy w' (some e) → wpList Tryz.prog ops Q rest (a.put oo.dst (.slice p' n c')) w') : wpList Tryz.prog ops Q (oo :: rest) a V :=
  wpList_plain hgd fun _ hK => wp_append_ints s y hop e hWe he hB hs ao n c f hx hc H hn (fun p' c' w' ho hg => hK _ _ (h p' c' w' ho hg))

end Go.Proofs.YtmafopckplpajaaGreatDoor

/-
  The specification's copies of nodes. (By copys.py.)
-/
namespace Go.Proofs.YtmafopckplpajaaGreatDoor
open Go.RowKit
set_option linter.unusedVariables false

set_option maxHeartbeats 8000000 in
set_option maxRecDepth 100000 in
theorem specCopyNode_any (x : Nd) (s : Na) (hs : x.Small) (hc : Caps x s) (w : World) (h : NdIn w x s) :
    Calls Tryz.prog 49 #[.agg (ndC x s)] w fun r w' => ∃ s', r = .returned (.agg (ndC x s')) ∧ NdG w' w.heap.size x s' ∧ Below w.heap.size w w' := by
  have E1 := hide (fun u (hu : Below w.heap.size w u) => specCopyPath_any x.vf x.pf s.av s.ap x.nv s.cv x.np s.cp hs.nv hs.np hc.v hc.p u (h.next hu).v (h.next hu).p)
  have D2 := hide (fun u (hu : Below w.heap.size w u) => (h.next hu).d)
  have n2 := hs.nd
  have c2' := hide hc.d
  have E3 := hide (fun u (hu : Below w.heap.size w u) => specCopyPath_any x.wf x.qf s.bv s.bp x.mv s.dv x.mp s.dp hs.mv hs.mp hc.cv hc.cp u (h.next hu).cv (h.next hu).cp)
  clear hs hc h
  go_enter Tryz.func49, Tryz.ntmps49
  go_upto_region 1 with fail
  have R := hide (al2_0 w (.cells (ndC x s) 41) (.cells #[.int .i64 0, .int .i64 0, .bool false, .int .i64 0, .int .i64 0, .int .i64 0, .int .i64 0, .int .i64 0, .int .i64 0, .slice none 0 0, .slice none 0 0, .bool false, .int .i64 0, .slice none 0 0, .int .i64 0, .int .i64 0, .int .i64 0, .int .i64 0, .int .i64 0, .int .i64 0, .int .i64 0, .int .i64 0, .int .i64 0, .int .i64 0, .int .i64 0, .int .i64 0, .int .i64 0, .int .i64 0, .int .i64 0, .slice none 0 0, .slice none 0 0] 41))
  have R2 := hide (al2_1 w (.cells (ndC x s) 41) (.cells #[.int .i64 0, .int .i64 0, .bool false, .int .i64 0, .int .i64 0, .int .i64 0, .int .i64 0, .int .i64 0, .int .i64 0, .slice none 0 0, .slice none 0 0, .bool false, .int .i64 0, .slice none 0 0, .int .i64 0, .int .i64 0, .int .i64 0, .int .i64 0, .int .i64 0, .int .i64 0, .int .i64 0, .int .i64 0, .int .i64 0, .int .i64 0, .int .i64 0, .int .i64 0, .int .i64 0, .int .i64 0, .int .i64 0, .slice none 0 0, .slice none 0 0] 41))
  have HB := hide (al2_below w (.cells (ndC x s) 41) (.cells #[.int .i64 0, .int .i64 0, .bool false, .int .i64 0, .int .i64 0, .int .i64 0, .int .i64 0, .int .i64 0, .int .i64 0, .slice none 0 0, .slice none 0 0, .bool false, .int .i64 0, .slice none 0 0, .int .i64 0, .int .i64 0, .int .i64 0, .int .i64 0, .int .i64 0, .int .i64 0, .int .i64 0, .int .i64 0, .int .i64 0, .int .i64 0, .int .i64 0, .int .i64 0, .int .i64 0, .int .i64 0, .int .i64 0, .slice none 0 0, .slice none 0 0] 41))
  obtain ⟨b2, hb2⟩ : ∃ b, Hid (b = w.heap.size + 1) := ⟨_, rfl⟩
  obtain ⟨b1, hb1⟩ : ∃ b, Hid (b = w.heap.size) := ⟨_, rfl⟩
  have lz : Hid (w.heap.size ≤ b1 ∧ w.heap.size ≤ b2 ∧ b1 < b2) := by unfold Hid; rw [unhide hb2, unhide hb1]; omega
  rw [← unhide hb2] at R2
  rw [← unhide hb1] at R
  rw [← unhide hb2, ← unhide hb1]
  generalize (w.alloc (.cells (ndC x s) 41)).alloc (.cells #[.int .i64 0, .int .i64 0, .bool false, .int .i64 0, .int .i64 0, .int .i64 0, .int .i64 0, .int .i64 0, .int .i64 0, .slice none 0 0, .slice none 0 0, .bool false, .int .i64 0, .slice none 0 0, .int .i64 0, .int .i64 0, .int .i64 0, .int .i64 0, .int .i64 0, .int .i64 0, .int .i64 0, .int .i64 0, .int .i64 0, .int .i64 0, .int .i64 0, .int .i64 0, .int .i64 0, .int .i64 0, .int .i64 0, .slice none 0 0, .slice none 0 0] 41) = W at R R2 HB ⊢
  clear hb2 hb1
  obtain ⟨C, hC⟩ : ∃ C : Array Value, Hid (#[.int .i64 0, .int .i64 0, .bool false, .int .i64 0, .int .i64 0, .int .i64 0, .int .i64 0, .int .i64 0, .int .i64 0, .slice none 0 0, .slice none 0 0, .bool false, .int .i64 0, .slice none 0 0, .int .i64 0, .int .i64 0, .int .i64 0, .int .i64 0, .int .i64 0, .int .i64 0, .int .i64 0, .int .i64 0, .int .i64 0, .int .i64 0, .int .i64 0, .int .i64 0, .int .i64 0, .int .i64 0, .int .i64 0, .slice none 0 0, .slice none 0 0] = C) := ⟨_, rfl⟩
  rw [unhide hC] at R2
  have hz := hide (show C.size = 31 by rw [← unhide hC]; rfl)
  clear hC
  have l1 := hide (show b1 < W.heap.size from heap_lt (unhide R))
  have l2 := hide (show b2 < W.heap.size from heap_lt (unhide R2))
  -- the path
  obtain ⟨c0, c1, c2, c3, c4, c5, c6, c7, c8, c9, c10, c11, c12, c13, c14, c15, c16, c17, c18, c19, c20, c21, c22, c23, c24, c25, c26, c27, c28, c29, c30⟩ := row31 (unhide R)
  go_wp2_with fail
  go_fit (unhide E1 _ (unhide HB))
  rintro r u1 ⟨a1, d1, a2, d2, rfl, o0, o1, hb⟩
  replace o0 := hide o0
  replace o1 := hide o1
  clear c0 c1 c2 c3 c4 c5 c6 c7 c8 c9 c10 c11 c12 c13 c14 c15 c16 c17 c18 c19 c20 c21 c22 c23 c24 c25 c26 c27 c28 c29 c30
  replace R := hide (row_next hb (unhide R))
  replace R2 := hide (row_next hb (unhide R2))
  replace HB := hide (below_two (unhide HB) hb)
  have s1 := hide (show W.heap.size ≤ u1.heap.size from hb.size)
  clear hb
  obtain ⟨c0, c1, c2, c3, c4, c5, c6, c7, c8, c9, c10, c11, c12, c13, c14, c15, c16, c17, c18, c19, c20, c21, c22, c23, c24, c25, c26, c27, c28, c29, c30⟩ := row31 (unhide R)
  have f9 := frozen_of_row u1 b1 9 _ _ (unhide R)
  have f10 := frozen_of_row u1 b1 10 _ _ (unhide R)
  go_upto_region 2 with fail
  clear c0 c1 c2 c3 c4 c5 c6 c7 c8 c9 c10 c11 c12 c13 c14 c15 c16 c17 c18 c19 c20 c21 c22 c23 c24 c25 c26 c27 c28 c29 c30 f9 f10
  replace R := hide (setC (j := 10) (v := .slice a2 x.np d2) (setC (j := 9) (v := .slice a1 x.nv d1) (unhide R)))
  rw [ndC_set9, ndC_set10] at R
  replace R2 := hide (setc_other (b := b1) (j := 10) (v := .slice a2 x.np d2) (Nat.ne_of_gt (unhide lz).2.2) (setc_other (b := b1) (j := 9) (v := .slice a1 x.nv d1) (Nat.ne_of_gt (unhide lz).2.2) (unhide R2)))
  replace HB := hide (((unhide HB).setCell (p := ⟨b1, 9, none⟩) (unhide lz).1 (.slice a1 x.nv d1)).setCell (p := ⟨b1, 10, none⟩) (unhide lz).1 (.slice a2 x.np d2))
  replace o0 := hide (((unhide o0).setc (j := 9) (u := .slice a1 x.nv d1) (unhide l1)).setc (j := 10) (u := .slice a2 x.np d2) (unhide l1))
  replace o1 := hide (((unhide o1).setc (j := 9) (u := .slice a1 x.nv d1) (unhide l1)).setc (j := 10) (u := .slice a2 x.np d2) (unhide l1))
  replace s1 := hide (show W.heap.size ≤ ((u1.setCell ⟨b1, 9, none⟩ (.slice a1 x.nv d1)).setCell ⟨b1, 10, none⟩ (.slice a2 x.np d2)).heap.size by simpa [World.setCell] using unhide s1)
  generalize (u1.setCell ⟨b1, 9, none⟩ (.slice a1 x.nv d1)).setCell ⟨b1, 10, none⟩ (.slice a2 x.np d2) = U1 at R R2 HB o0 o1 s1 ⊢
  clear u1
  obtain ⟨c0, c1, c2, c3, c4, c5, c6, c7, c8, c9, c10, c11, c12, c13, c14, c15, c16, c17, c18, c19, c20, c21, c22, c23, c24, c25, c26, c27, c28, c29, c30⟩ := row31 (unhide R)
  go_wp2_with fail
  go_fit (unhide E3 _ (unhide HB))
  rintro r u2 ⟨a4, d4, a5, d5, rfl, o3, o4, hb⟩
  replace o3 := hide o3
  replace o4 := hide o4
  clear c0 c1 c2 c3 c4 c5 c6 c7 c8 c9 c10 c11 c12 c13 c14 c15 c16 c17 c18 c19 c20 c21 c22 c23 c24 c25 c26 c27 c28 c29 c30
  replace R := hide (row_next hb (unhide R))
  replace R2 := hide (row_next hb (unhide R2))
  replace HB := hide (below_two (unhide HB) hb)
  have q0 := hide (show ∀ k, (Value.slice a1 x.nv d1).ownBlock = some k → k < U1.heap.size from fun k e => ((unhide o0).lt k e).2)
  have q1 := hide (show ∀ k, (Value.slice a2 x.np d2).ownBlock = some k → k < U1.heap.size from fun k e => ((unhide o1).lt k e).2)
  have s2 := hide (show U1.heap.size ≤ u2.heap.size from hb.size)
  replace o0 := hide ((unhide o0).next hb)
  replace o1 := hide ((unhide o1).next hb)
  clear hb
  obtain ⟨c0, c1, c2, c3, c4, c5, c6, c7, c8, c9, c10, c11, c12, c13, c14, c15, c16, c17, c18, c19, c20, c21, c22, c23, c24, c25, c26, c27, c28, c29, c30⟩ := row31 (unhide R)
  have f29 := frozen_of_row u2 b1 29 _ _ (unhide R)
  have f30 := frozen_of_row u2 b1 30 _ _ (unhide R)
  go_upto_region 3 with fail
  clear c0 c1 c2 c3 c4 c5 c6 c7 c8 c9 c10 c11 c12 c13 c14 c15 c16 c17 c18 c19 c20 c21 c22 c23 c24 c25 c26 c27 c28 c29 c30 f29 f30
  have l4 := hide (show b1 < U1.heap.size from Nat.lt_of_lt_of_le (unhide l1) (unhide s1))
  replace R := hide (setC (j := 30) (v := .slice a5 x.mp d5) (setC (j := 29) (v := .slice a4 x.mv d4) (unhide R)))
  rw [ndC_set29, ndC_set30] at R
  replace R2 := hide (setc_other (b := b1) (j := 30) (v := .slice a5 x.mp d5) (Nat.ne_of_gt (unhide lz).2.2) (setc_other (b := b1) (j := 29) (v := .slice a4 x.mv d4) (Nat.ne_of_gt (unhide lz).2.2) (unhide R2)))
  replace HB := hide (((unhide HB).setCell (p := ⟨b1, 29, none⟩) (unhide lz).1 (.slice a4 x.mv d4)).setCell (p := ⟨b1, 30, none⟩) (unhide lz).1 (.slice a5 x.mp d5))
  replace o0 := hide (((unhide o0).setc (j := 29) (u := .slice a4 x.mv d4) (unhide l1)).setc (j := 30) (u := .slice a5 x.mp d5) (unhide l1))
  replace o1 := hide (((unhide o1).setc (j := 29) (u := .slice a4 x.mv d4) (unhide l1)).setc (j := 30) (u := .slice a5 x.mp d5) (unhide l1))
  replace o3 := hide (((unhide o3).setc (j := 29) (u := .slice a4 x.mv d4) (unhide l4)).setc (j := 30) (u := .slice a5 x.mp d5) (unhide l4))
  replace o4 := hide (((unhide o4).setc (j := 29) (u := .slice a4 x.mv d4) (unhide l4)).setc (j := 30) (u := .slice a5 x.mp d5) (unhide l4))
  replace s2 := hide (show U1.heap.size ≤ ((u2.setCell ⟨b1, 29, none⟩ (.slice a4 x.mv d4)).setCell ⟨b1, 30, none⟩ (.slice a5 x.mp d5)).heap.size by simpa [World.setCell] using unhide s2)
  generalize (u2.setCell ⟨b1, 29, none⟩ (.slice a4 x.mv d4)).setCell ⟨b1, 30, none⟩ (.slice a5 x.mp d5) = U2 at R R2 HB o0 o1 o3 o4 s2 ⊢
  clear u2
  -- the dashes
  have q3 := hide (show ∀ k, (Value.slice a4 x.mv d4).ownBlock = some k → k < U2.heap.size from fun k e => ((unhide o3).lt k e).2)
  have q4 := hide (show ∀ k, (Value.slice a5 x.mp d5).ownBlock = some k → k < U2.heap.size from fun k e => ((unhide o4).lt k e).2)
  have l5 := hide (show b1 < U2.heap.size from Nat.lt_of_lt_of_le (unhide l4) (unhide s2))
  have hbA := hide (al1_below U2 (.cells #[] 3))
  have RA := hide (row_next (unhide hbA) (unhide R))
  have RN := hide (new_row U2 (.cells #[] 3))
  obtain ⟨c0, c1, c2, c3, c4, c5, c6, c7, c8, c9, c10, c11, c12, c13, c14, c15, c16, c17, c18, c19, c20, c21, c22, c23, c24, c25, c26, c27, c28, c29, c30⟩ := row31 (unhide RA)
  go_upto_region 4 with (refine wpList_append_ints (B := U2.heap.size) rfl (.tmp 11) (.tmp 13) rfl U2.heap.size (Nat.le_refl _) (unhide RN) (unhide hbA).size rfl s.ad x.nd s.cd x.df rfl (unhide c2') (unhide D2 _ (below_two (unhide HB) (unhide hbA))) n2 ?_; intro a3 d3 u3 o2 g6; have cC := (g6.block b1 (heap_lt (unhide RA)) (fun e => by cases e; exact absurd (unhide l5) (Nat.lt_irrefl _))).trans (unhide RA); have f13 := frozen_of_row u3 b1 13 _ _ cC; have e13 := (row31 cC).2.2.2.2.2.2.2.2.2.2.2.2.2.1; replace cC := hide cC; replace o2 := hide o2; replace g6 := hide g6)
  clear c0 c1 c2 c3 c4 c5 c6 c7 c8 c9 c10 c11 c12 c13 c14 c15 c16 c17 c18 c19 c20 c21 c22 c23 c24 c25 c26 c27 c28 c29 c30 f13 e13
  replace R := hide (setC (j := 13) (v := .slice a3 x.nd d3) (unhide cC))
  rw [ndC_set13] at R
  have kp : ∀ k, k < U2.heap.size → some k ≠ some U2.heap.size := fun k hk e => by cases e; omega
  replace R2 := hide (setc_other (b := b1) (j := 13) (v := .slice a3 x.nd d3) (Nat.ne_of_gt (unhide lz).2.2) (((unhide g6).block b2 (heap_lt (row_next (unhide hbA) (unhide R2))) (kp b2 (heap_lt (unhide R2)))).trans (row_next (unhide hbA) (unhide R2))))
  have hbG := hide (show Below U2.heap.size U2 u3 from (unhide hbA).grown (unhide g6) (unhide hbA).size (fun k hk => by cases hk; exact Nat.le_refl _))
  replace HB := hide ((below_two (unhide HB) (unhide hbG)).setCell (p := ⟨b1, 13, none⟩) (unhide lz).1 (.slice a3 x.nd d3))
  replace o0 := hide (((unhide o0).next (unhide hbG)).setc (j := 13) (u := .slice a3 x.nd d3) (unhide l1))
  replace o1 := hide (((unhide o1).next (unhide hbG)).setc (j := 13) (u := .slice a3 x.nd d3) (unhide l1))
  replace o3 := hide (((unhide o3).next (unhide hbG)).setc (j := 13) (u := .slice a3 x.nd d3) (unhide l4))
  replace o4 := hide (((unhide o4).next (unhide hbG)).setc (j := 13) (u := .slice a3 x.nd d3) (unhide l4))
  replace o2 := hide ((unhide o2).setc (j := 13) (u := .slice a3 x.nd d3) (unhide l5))
  generalize u3.setCell ⟨b1, 13, none⟩ (.slice a3 x.nd d3) = U3 at R R2 HB o0 o1 o2 o3 o4 ⊢
  clear cC g6 RA RN hbA hbG
  obtain ⟨s', hs'⟩ : ∃ t, Hid (t = ({ s with av := a1, cv := d1, ap := a2, cp := d2, ad := a3, cd := d3, bv := a4, dv := d4, bp := a5, dp := d5 } : Na)) := ⟨_, rfl⟩
  replace R := hide (show U3.heap[b1]? = some (.cells (ndC x s') 41 (0, 0)) by rw [unhide hs']; exact unhide R)
  have hG := hide (show NdG U3 W.heap.size x s' by
    rw [unhide hs']
    exact ndG_of (b1 := U2.heap.size) (b2 := U1.heap.size) (b3 := U2.heap.size) (unhide o0) (unhide o1) (unhide o2) (unhide o3) (unhide o4) ⟨fun k e => by have := unhide q0 k e; have := unhide s2; omega, fun k e => by have := unhide q1 k e; have := unhide s2; omega, fun k e => .inr ((unhide o2).lt k e).1, unhide q3, unhide q4⟩ (by have := unhide s1; have := unhide s2; omega))
  clear o0 o1 o2 o3 o4 q0 q1 q3 q4 E1 E3 D2 c2' hs'
  go_wp2_with (first | refine load_own rfl _ rfl b1 rfl x s' 41 (unhide R) ?_ | refine wpList_store_row rfl 41 _ _ rfl b2 (ndC x s') rfl rfl 41 _ (unhide R2) (ndC_info x s') (by rw [unhide hz]; rfl) (ndC_one x s') ?_)
  have R2' := hide (setRow_heap _ _ _ (ndC x s') _ _ (unhide R2))
  refine bodyPost_ret (v := .agg (ndC x s')) (results_cell_row rfl _ _ b2 41 _ (0, 0) _ rfl (unhide R2') Tryz.underlying41 rfl (ndC_info x s')) rfl ⟨s', rfl, ((unhide hG).setRow (unhide l2)).low ?_, below_setRow (unhide HB) (unhide lz).2.1 _⟩
  exact Nat.le_trans (unhide lz).1 (Nat.le_of_lt (unhide l1))

end Go.Proofs.YtmafopckplpajaaGreatDoor
