/-
  ChangeP · ChangeL · ChangeF · ChangeQ · ChangeA · ChangeB · CopyS · CopyT · CopyU: texts of one claim, in one.
-/
import Derived.Test.YtmafopckplpajabGreatDoorFnExactSetNodeM9
import Derived.Test.YtmafopckplpajabGreatDoorFnExactSetNodeM10
import Derived.Test.YtmafopckplpajabGreatDoorFnExactSetNodeM11
import Derived.Test.YtmafopckplpajabGreatDoorFnExactSetNodeM4
import Derived.Laws.AppendOwnNone

/-
  Changes: what both sides reckon; guarded loads of nodes.
-/
namespace Go.Proofs.YtmafopckplpajabGreatDoor
open Go.RowKit
set_option linter.unusedVariables false

/-- A scene and a code that are handed back. -/
def ChRes (w : World) (r : Ending) (w' : World) (c : Int) (n : Nat) (X : Nat → Nd) : Prop := ∃ a cc A, r = .returned (.tuple #[.agg #[.slice a n cc], .int .i64 c]) ∧ SG w' w.heap.size w'.heap.size a n cc X A ∧ Below w.heap.size w w'
noncomputable def createC (X : Nat → Nd) (n : Nat) (x : Nd) : Int :=
  if ¬ (sceneOkB X n = true ∧ nodeOkB x = true) then 1 else if 0 ≤ firstN X x.id n then 3 else if holdB X n x.par = false then 2 else if n = 8 then 4 else if 4 ≤ depthI X n x.par then 5 else 0
noncomputable def changeC (X : Nat → Nd) (n : Nat) (id : Int) : Int := if ¬ sceneOkB X n = true then 1 else if firstN X id n < 0 then 2 else 0
noncomputable def setC16 (X : Nat → Nd) (n : Nat) (x : Nd) : Int :=
  if ¬ (sceneOkB X n = true ∧ nodeOkB x = true) then 1 else if firstN X x.id n < 0 then 2 else if x.gr = false ∧ 0 < (kidsL X n x.id).length then 1 else 0
noncomputable def createN (X : Nat → Nd) (n : Nat) (x : Nd) : Nat := if createC X n x = 0 then n + 1 else n
noncomputable def createX (X : Nat → Nd) (n : Nat) (x : Nd) : Nat → Nd := if createC X n x = 0 then upd X n x else X
theorem errV_is {c : Int} (h : c ≠ 0) : errV c = .iface 100 (.agg #[.int .i64 c]) := if_neg h
theorem errV_nil : errV 0 = .nilIface := if_pos rfl
theorem depth_nn {X : Nat → Nd} {n : Nat} : ∀ (f : Nat) (c id : Int), 0 ≤ c → 0 ≤ depthN X n f c id
  | 0, _, _, _ => by unfold depthN; exact Int.le_refl _
  | f + 1, c, id, h => by
    unfold depthN
    split
    · exact h
    · split
      · exact Int.le_refl _
      · exact depth_nn f (c + 1) _ (by omega)
theorem depth_le {X : Nat → Nd} {n : Nat} : ∀ (f : Nat) (c id : Int), 0 ≤ c → depthN X n f c id ≤ c + f
  | 0, c, _, h => by unfold depthN; omega
  | f + 1, c, id, h => by
    unfold depthN
    split
    · omega
    · split
      · omega
      · have := depth_le (X := X) (n := n) f (c + 1) (X (firstN X id n).toNat).par (by omega); omega
theorem load_own_g {ops : Array Oper} {rest : List Oper} {op : Oper} {a : Act} {w : World} {Q : Exit → Act → World → Prop} (hw : Region.wanted op (yielded ops a.tmps) = true) (y : Operand) (ho : op.op = .load 56 y)
    (b : Nat) (hx : a.eval y = .pointer (some ⟨b, 0, none⟩)) (x : Nd) (s : Na) (t : TypeId) (hc : w.heap[b]? = some (.cells (ndC x s) t (0, 0)))
    (h : wpList Tryz.prog ops Q rest (a.put op.dst (.agg (ndC x s))) w) : wpList Tryz.prog ops Q (op :: rest) a w :=
  wpList_step fun K hK => by
    rw [if_pos hw]
    exact wp_load_mid 56 y ho b 0 hx (ndC x s).toList _ (rowRng hc) Tryz.underlying56 rfl (ndC_infoL x s) (by rw [Array.toArray_toList]; exact hK _ _ h)
structure Wf (X : Nat → Nd) (n : Nat) : Prop where
  id : ∀ i, i < n → (Lit.int .i64 (X i).id).wf = true
  par : ∀ i, i < n → (Lit.int .i64 (X i).par).wf = true
theorem own_ty {w : World} {B e s n b : Nat} {v : Value} {xs : List Value} {cs : Array Value} {t : TypeId} {fz : Nat × Nat} (h : w.ownsRow B e s v n xs) (hb : w.heap[b]? = some (.cells cs t fz)) (ht : t ≠ e) : ∀ k, v.ownBlock = some k → k ≠ b := by
  rcases h.2 with ⟨rfl, _⟩ | ⟨g, cap, cur, rfl, _, hg, _⟩
  · intro k e; cases e
  · intro k e e2
    have e1 : g = k := Option.some.inj e
    subst e1
    subst e2
    rw [hg] at hb
    cases hb
    exact ht rfl
theorem lty_sc (l : Nat) : 43 ≠ lty l := by unfold lty; split <;> decide
/-- A variable of another kind can be written without harm to a scene. -/
theorem SG.setk {u : World} {base T n c b j : Nat} {p : Option Addr} {v : Value} {cs : Array Value} {fz : Nat × Nat} {X : Nat → Nd} {A : Nat → Na} (h : SG u base T p n c X A) (hb : u.heap[b]? = some (.cells cs 43 fz)) : SG (u.setCell ⟨b, j, none⟩ v) base T p n c X A :=
  let ⟨ys, h1, h2⟩ := h.row; ⟨⟨ys, own_setc_ne h1 (own_ty h1 hb (by decide)), h2⟩, fun j hj l hl => let ⟨xs, a1, a2⟩ := h.own j hj l hl; ⟨xs, own_setc_ne a1 (own_ty a1 hb (lty_sc l)), a2⟩, h.apt⟩
end Go.Proofs.YtmafopckplpajabGreatDoor

/-
  The exact laws of chapter 16, from what the functions of both sides answer. (By changelaw.py.)
-/
namespace Go.Proofs.YtmafopckplpajabGreatDoor
open Go.RowKit
set_option linter.unusedVariables false

theorem ScV.sg {w : World} {base n c : Nat} {a : Option Addr} {X : Nat → Nd} {A : Nat → Na} (h : ScV w base a n c X A) : SG w base w.heap.size a n c X A := by
  obtain ⟨b, ys, K, lo, rfl, h2, h3, h4, h5⟩ := h
  exact h5.sg h2 h3 h4 h5.top
/-- A node whose lists are one's own, below T. -/
def NdT (w : World) (base T : Nat) (x : Nd) (s : Na) : Prop := NdG w base x s ∧ ∀ l, l < 5 → ∀ k, (lvl x s l).ownBlock = some k → k < T
theorem NdG.ndT {w : World} {base : Nat} {x : Nd} {s : Na} (h : NdG w base x s) : NdT w base w.heap.size x s := ⟨h, fun l hl k e => ((h.own l hl).lt k e).2⟩
theorem NdT.next {w u : World} {base T : Nat} {x : Nd} {s : Na} (h : NdT w base T x s) (hb : Below w.heap.size w u) : NdT u base T x s := ⟨h.1.next hb, h.2⟩
theorem NdT.far {w u : World} {base T b T' : Nat} {x : Nd} {s : Na} (h : NdT w base T x s) (hF : FarB b T' w u) (hd : T ≤ b ∨ T' ≤ base) : NdT u base T x s :=
  ⟨⟨fun l hl => let ⟨xs, a1, a2⟩ := h.1.own l hl; ⟨xs, hF.own a1 (fun k e => by have h1 := h.2 l hl k e; have h2 := (a1.lt k e).1; omega), a2⟩, h.1.inj⟩, h.2⟩
theorem load_lown {ops : Array Oper} {rest : List Oper} {op : Oper} {a : Act} {w : World} {Q : Exit → Act → World → Prop} (hgd : op.guard = none) (y : Operand) (ho : op.op = .load 38 y)
    (b : Nat) (hx : a.eval y = .pointer (some ⟨b, 0, none⟩)) (x : Nd) (s : Na) (t : TypeId) (hc : w.heap[b]? = some (.cells (ndC x s) t (0, 0)))
    (h : wpList Tryz.prog ops Q rest (a.put op.dst (.agg (ndC x s))) w) : wpList Tryz.prog ops Q (op :: rest) a w :=
  load_lnode hgd y ho b 0 hx x s (rowRng hc) h
theorem yields_lnode {ops : Array Oper} {S : World → Prop} {op : Oper} {a : Act} (hw : Region.wanted op (yielded ops a.tmps) = true) (y : Operand) (ho : op.op = .load 38 y)
    (b o : Nat) (hx : a.eval y = .pointer (some ⟨b, o, none⟩)) (x : Nd) (s : Na) (hS : ∀ w, S w → w.rangeAt b o (ndC x s).toList) : YieldsIf Tryz.prog ops S op (.agg (ndC x s)) a := by
  have h := yieldsIf_load_mid (P := Tryz.prog) hw 38 y ho b o hx (ndC x s).toList _ hS Tryz.underlying38 rfl (by rw [Array.length_toList, ndC_size]; exact lnode_size)
  rwa [Array.toArray_toList] at h

set_option maxHeartbeats 4000000 in
theorem markPath_far (v1 v2 : Value) (base n m k : Nat) (hk : k ≤ 1000000000) (hn : n ≤ 1048576) (hm : m ≤ 1048576) (w : World) (h1 : ∃ xs, w.ownsRow base 3 1 v1 n xs) (h2 : ∃ xs, w.ownsRow base 52 2 v2 m xs) :
    Calls Tryz.prog 40 #[.agg #[v1, v2], .int .i64 k] w fun r w' => r = .returned (.int .i64 ((k + n + m * 2 : Nat) : Int)) ∧ ∃ u, Below w.heap.size w u ∧ ∃ u2, u.grownBy u2 v1.ownBlock ∧ u2.grownBy w' v2.ownBlock := by
  obtain ⟨xs, h1⟩ := h1
  obtain ⟨ys, h2⟩ := h2
  obtain ⟨a, c, rfl⟩ := own_form h1
  obtain ⟨b, d, rfl⟩ := own_form h2
  have E1 := hide (fun u zs (hu : u.ownsRow base 3 1 (.slice a n c) n zs) => markIntS_any (.slice a n c) base n k zs (by omega) hn u hu)
  have E2 := hide (fun u zs (hu : u.ownsRow base 52 2 (.slice b m d) m zs) => markPointS_any (.slice b m d) base m (k + n) zs (by omega) hm u hu)
  have hap := own_kind h2 h1 (by decide)
  go_enter Tryz.func40, Tryz.ntmps40
  go_upto_region 1 with fail
  have R := hide (new_row w (.cells #[.slice a n c, .slice b m d] 50))
  have HB := hide (al1_below w (.cells #[.slice a n c, .slice b m d] 50))
  replace h1 := hide (own_below h1 (unhide HB))
  replace h2 := hide (own_below h2 (unhide HB))
  have hlt := hide (show ∀ q, (Value.slice a n c).ownBlock = some q → q ≠ w.heap.size from own_ty (unhide h1) (unhide R) (by decide))
  generalize w.alloc (.cells #[.slice a n c, .slice b m d] 50) = W at R HB h1 h2 ⊢
  obtain ⟨b1, hb1⟩ : ∃ b, Hid (b = w.heap.size) := ⟨_, rfl⟩
  rw [← unhide hb1] at R hlt ⊢
  obtain ⟨c0, c1⟩ := row2 (unhide R)
  go_wp2_with fail
  go_fit (unhide E1 _ _ (unhide h1))
  rintro r u1 ⟨rfl, _, hg⟩
  replace R := hide ((hg.block b1 (heap_lt (unhide R)) (fun e => unhide hlt b1 e.symm rfl)).trans (unhide R))
  replace h2 := hide ((unhide h2).kept hg (by
    cases hk : (Value.slice b m d).ownBlock with
    | none => exact .inl rfl
    | some q => exact .inr (fun e => hap q hk e.symm)))
  replace hg := hide hg
  clear c0 c1 h1
  obtain ⟨c0, c1⟩ := row2 (unhide R)
  go_wp2_with fail
  go_fit (unhide E2 _ _ (unhide h2))
  rintro r u2 ⟨rfl, _, hg2⟩
  replace hg2 := hide hg2
  clear c0 c1
  go_wp2_with fail
  go_ret
  exact ⟨rfl, W, unhide HB, u1, unhide hg, unhide hg2⟩
theorem FarB.more {b T : Nat} {w u v u2 u' : World} {k1 k2 : Option Nat} (h : FarB b T w u) (hb : Below u.heap.size u v) (g1 : v.grownBy u2 k1) (g2 : u2.grownBy u' k2) (h1 : ∀ q, k1 = some q → b ≤ q ∧ q < T) (h2 : ∀ q, k2 = some q → b ≤ q ∧ q < T) : FarB b T w u' :=
  (((h.grown (k := none) ⟨hb.os, hb.tape, hb.output, hb.size, fun q hq _ => hb.block q hq⟩ (fun q e => by cases e)).grown g1 h1).grown g2 h2)

set_option maxHeartbeats 4000000 in
set_option maxRecDepth 100000 in
theorem markNode_far (x : Nd) (s : Na) (hs : x.Small) (base T k : Nat) (hk : k ≤ 100000000) (w : World) (h : NdT w base T x s) :
    Calls Tryz.prog 13 #[.agg (ndC x s), .int .i64 k] w fun r w' => (∃ q : Nat, r = .returned (.int .i64 (q : Int))) ∧ FarB base T w w' := by
  have E1 := hide (fun u hk => markPath_far (.slice s.av x.nv s.cv) (.slice s.ap x.np s.cp) base x.nv x.np k hk hs.nv hs.np u)
  have E2 := hide (fun u zs hk (hu : u.ownsRow base 3 1 (.slice s.ad x.nd s.cd) x.nd zs) => markIntS_any (.slice s.ad x.nd s.cd) base x.nd (k + x.nv + x.np * 2) zs hk hs.nd u hu)
  have E3 := hide (fun u hk => markPath_far (.slice s.bv x.mv s.dv) (.slice s.bp x.mp s.dp) base x.mv x.mp (k + x.nv + x.np * 2 + x.nd) hk hs.mv hs.mp u)
  have b1 := hs.nv
  have b2 := hs.np
  have b3 := hs.nd
  have hO := hide h.1.own
  have hI := hide h.1.inj
  have hT := hide (show ∀ l, l < 5 → ∀ q, (lvl x s l).ownBlock = some q → base ≤ q ∧ q < T from fun l hl q e => ⟨((h.1.own l hl).lt q e).1, h.2 l hl q e⟩)
  have hW := hide (show ∀ l, l < 5 → ∀ q, (lvl x s l).ownBlock = some q → q ≠ w.heap.size from fun l hl q e => Nat.ne_of_lt ((h.1.own l hl).lt q e).2)
  have off := hide (show ∀ l m, l < 5 → m < 5 → l ≠ m → (lvl x s l).ownBlock = none ∨ (lvl x s l).ownBlock ≠ (lvl x s m).ownBlock from fun l m hl hm hne => by
    cases hk : (lvl x s l).ownBlock with
    | none => exact .inl rfl
    | some q => exact .inr (fun e => hne (h.1.inj l m hl hm q hk e.symm)))
  clear h hs
  go_enter Tryz.func13, Tryz.ntmps13
  go_upto_region 1 with fail
  have R := hide (new_row w (.cells (ndC x s) 56))
  have HB := hide (al1_below w (.cells (ndC x s) 56))
  replace hO := hide (fun l hl => (unhide hO l hl).next (unhide HB))
  have HF := hide (show FarB base T w (w.alloc (.cells (ndC x s) 56)) from (FarB.refl base T _).pre (unhide HB))
  generalize w.alloc (.cells (ndC x s) 56) = W at R HB hO HF ⊢
  obtain ⟨bb, hbb⟩ : ∃ b, Hid (b = w.heap.size) := ⟨_, rfl⟩
  rw [← unhide hbb] at R hW ⊢
  have F1 := hide (unhide E1 W (by omega) (let ⟨xs, h1, _⟩ := unhide hO 0 (by omega); ⟨xs, h1⟩) (let ⟨xs, h1, _⟩ := unhide hO 1 (by omega); ⟨xs, h1⟩))
  obtain ⟨c0, c1, c2, c3, c4, c5, c6, c7, c8, c9, c10, c11, c12, c13, c14, c15, c16, c17, c18, c19, c20, c21, c22, c23, c24, c25, c26, c27, c28, c29, c30⟩ := row31 (unhide R)
  go_wp2_with fail
  go_fit (unhide F1)
  rintro r u1 ⟨rfl, v1, hb, v2, g1, g2⟩
  clear c0 c1 c2 c3 c4 c5 c6 c7 c8 c9 c10 c11 c12 c13 c14 c15 c16 c17 c18 c19 c20 c21 c22 c23 c24 c25 c26 c27 c28 c29 c30 F1
  replace HF := hide ((unhide HF).more hb g1 g2 (unhide hT 0 (by omega)) (unhide hT 1 (by omega)))
  have hO2 := hide (show ∀ l, l < 5 → l ≠ 0 → l ≠ 1 → OwnL u1 base x s l from fun l hl n0 n1 => (((unhide hO l hl).next hb).kept g1 (unhide off l 0 hl (by omega) n0)).kept g2 (unhide off l 1 hl (by omega) n1))
  have R1 := hide ((g1.block bb (heap_lt (row_next hb (unhide R))) (fun e => unhide hW 0 (by omega) bb e.symm rfl)).trans (row_next hb (unhide R)))
  replace R := hide ((g2.block bb (heap_lt (unhide R1)) (fun e => unhide hW 1 (by omega) bb e.symm rfl)).trans (unhide R1))
  clear hO hb g1 g2 R1
  obtain ⟨xs2, o2, _⟩ := unhide hO2 2 (by omega) (by omega) (by omega)
  have F2 := hide (unhide E2 u1 xs2 (by omega) o2)
  obtain ⟨c0, c1, c2, c3, c4, c5, c6, c7, c8, c9, c10, c11, c12, c13, c14, c15, c16, c17, c18, c19, c20, c21, c22, c23, c24, c25, c26, c27, c28, c29, c30⟩ := row31 (unhide R)
  clear o2
  go_wp2_with fail
  go_fit (unhide F2)
  rintro r u2 ⟨rfl, _, g3⟩
  clear c0 c1 c2 c3 c4 c5 c6 c7 c8 c9 c10 c11 c12 c13 c14 c15 c16 c17 c18 c19 c20 c21 c22 c23 c24 c25 c26 c27 c28 c29 c30 F2
  replace HF := hide ((unhide HF).grown g3 (unhide hT 2 (by omega)))
  have hO3 := hide (show ∀ l, l < 5 → l ≠ 0 → l ≠ 1 → l ≠ 2 → OwnL u2 base x s l from fun l hl n0 n1 n2 => (unhide hO2 l hl n0 n1).kept g3 (unhide off l 2 hl (by omega) n2))
  replace R := hide ((g3.block bb (heap_lt (unhide R)) (fun e => unhide hW 2 (by omega) bb e.symm rfl)).trans (unhide R))
  clear hO2 g3
  have F3 := hide (unhide E3 u2 (by omega) (let ⟨xs, h1, _⟩ := unhide hO3 3 (by omega) (by omega) (by omega) (by omega); ⟨xs, h1⟩) (let ⟨xs, h1, _⟩ := unhide hO3 4 (by omega) (by omega) (by omega) (by omega); ⟨xs, h1⟩))
  obtain ⟨c0, c1, c2, c3, c4, c5, c6, c7, c8, c9, c10, c11, c12, c13, c14, c15, c16, c17, c18, c19, c20, c21, c22, c23, c24, c25, c26, c27, c28, c29, c30⟩ := row31 (unhide R)
  go_wp2_with fail
  go_fit (unhide F3)
  rintro r u3 ⟨rfl, v1, hb, v2, g1, g2⟩
  replace HF := hide ((unhide HF).more hb g1 g2 (unhide hT 3 (by omega)) (unhide hT 4 (by omega)))
  clear c0 c1 c2 c3 c4 c5 c6 c7 c8 c9 c10 c11 c12 c13 c14 c15 c16 c17 c18 c19 c20 c21 c22 c23 c24 c25 c26 c27 c28 c29 c30 F3 hb g1 g2
  go_wp2_with fail
  go_ret
  exact ⟨⟨_, rfl⟩, unhide HF⟩
end Go.Proofs.YtmafopckplpajabGreatDoor

/-
  Changed scenes are not too great for the laws' words.
-/
namespace Go.Proofs.YtmafopckplpajabGreatDoor
open Go.RowKit
set_option linter.unusedVariables false

theorem node_fit {x : Nd} (h : nodeOkB x = true) : x.Small ∧ x.tot ≤ 200 := by
  unfold nodeOkB at h
  simp only [Bool.and_eq_true] at h
  obtain ⟨_, _, _, _, h5, h6, _, h8, _⟩ := h
  have r1 := rightB_iff.1 h5
  have r2 := rightB_iff.1 h6
  have r3 := dashOk_iff.1 h8
  have := r1.nv24; have := r1.np24; have := r2.nv24; have := r2.np24; have := r3.2.1
  exact ⟨⟨by omega, by omega, by omega, by omega, by omega⟩, by unfold Nd.tot; omega⟩
theorem sumT_fit {X : Nat → Nd} : ∀ {n : Nat}, (∀ i, i < n → (X i).tot ≤ 200) → sumT X n ≤ n * 200
  | 0, _ => Nat.le_refl _
  | n + 1, h => by
    have h1 := sumT_fit (n := n) (fun i hi => h i (by omega))
    have h2 := h n (by omega)
    show sumT X n + (X n).tot ≤ (n + 1) * 200
    omega
theorem create_ok {X : Nat → Nd} {n : Nat} {x : Nd} (h : createC X n x = 0) : ScOk X n ∧ nodeOkB x = true ∧ firstN X x.id n < 0 ∧ holdB X n x.par = true ∧ n ≠ 8 ∧ depthI X n x.par < 4 := by
  unfold createC at h
  split at h
  · cases h
  · next h1 =>
    have h1' := Classical.not_not.1 h1
    split at h
    · cases h
    · next h2 =>
      split at h
      · cases h
      · next h3 =>
        split at h
        · cases h
        · next h4 =>
          split at h
          · cases h
          · next h5 => exact ⟨sceneOk_iff.1 h1'.1, h1'.2, by omega, by simpa using h3, h4, by omega⟩
theorem few_fit {Y : Nat → Nd} {m : Nat} (hm : m ≤ 9) (h : ∀ i, i < m → nodeOkB (Y i) = true) : m ≤ 1048576 ∧ (∀ i, i < m → (Y i).Small) ∧ scT Y m ≤ 1048576 := by
  refine ⟨by omega, fun i hi => (node_fit (h i hi)).1, ?_⟩
  have := sumT_fit (X := Y) (n := m) (fun i hi => (node_fit (h i hi)).2)
  unfold scT
  omega
theorem create_fits (X : Nat → Nd) (n : Nat) (x : Nd) (hn : n ≤ 1048576) (ht : scT X n ≤ 1048576) (hs : ∀ i, i < n → (X i).Small) (hx : x.Small) : createN X n x ≤ 1048576 ∧ (∀ i, i < createN X n x → (createX X n x i).Small) ∧ scT (createX X n x) (createN X n x) ≤ 1048576 := by
  by_cases h : createC X n x = 0
  · rw [show createN X n x = n + 1 from if_pos h, show createX X n x = upd X n x from if_pos h]
    obtain ⟨h1, h2, _⟩ := create_ok h
    refine few_fit (by have := h1.1; omega) (fun i hi => ?_)
    by_cases e : i = n
    · subst e; rw [upd_at]; exact h2
    · rw [upd_ne _ _ e]; exact (okAt_iff.1 (h1.2 i (by omega))).1
  · rw [show createN X n x = n from if_neg h, show createX X n x = X from if_neg h]
    exact ⟨hn, hs, ht⟩
end Go.Proofs.YtmafopckplpajabGreatDoor

/-
  Nodes of a scene of one's own that are written anew.
-/
namespace Go.Proofs.YtmafopckplpajabGreatDoor
open Go.RowKit
set_option linter.unusedVariables false

def Nd.withPar (x : Nd) (q : Int) : Nd := { x with par := q }
theorem lvl_par (x : Nd) (q : Int) (s : Na) (l : Nat) : lvl (x.withPar q) s l = lvl x s l := by
  rcases l with _ | _ | _ | _ | l <;> rfl
theorem lnl_par (x : Nd) (q : Int) (l : Nat) : lnl (x.withPar q) l = lnl x l := by
  rcases l with _ | _ | _ | _ | l <;> rfl
theorem lct_par (x : Nd) (q : Int) (l : Nat) (xs : List Value) : lct (x.withPar q) l xs = lct x l xs := by
  rcases l with _ | _ | _ | _ | l <;> rfl
theorem OwnL.withPar {w : World} {base : Nat} {x : Nd} {s : Na} {l : Nat} (h : OwnL w base x s l) (q : Int) : OwnL w base (x.withPar q) s l := by
  obtain ⟨xs, h1, h2⟩ := h
  refine ⟨xs, ?_, ?_⟩
  · rw [lvl_par, lnl_par]; exact h1
  · rw [lct_par]; exact h2
theorem NdG.withPar {w : World} {base : Nat} {x : Nd} {s : Na} (h : NdG w base x s) (q : Int) : NdG w base (x.withPar q) s :=
  ⟨fun l hl => (h.own l hl).withPar q, fun l m hl hm k e1 e2 => h.inj l m hl hm k (by rw [lvl_par] at e1; exact e1) (by rw [lvl_par] at e2; exact e2)⟩
theorem ndC_par (x : Nd) (s : Na) (q : Int) : (ndC x s).setIfInBounds 1 (.int .i64 q) = ndC (x.withPar q) s := by unfold ndC Nd.withPar; simp only [List.setIfInBounds_toArray, List.set_cons_zero, List.set_cons_succ]
/-- Node k of a scene is another one. -/
theorem SG.put {u : World} {base T g n c k B : Nat} {X : Nat → Nd} {A : Nat → Na} {x : Nd} {s : Na} (h : SG u base T (some ⟨g, 0, none⟩) n c X A) (hk : k < n) (hB : base ≤ B) (hT : T ≤ B) (hx : NdG u B x s) :
    SG (u.setCells g (k * 31) (ndC x s).toList) base (u.setCells g (k * 31) (ndC x s).toList).heap.size (some ⟨g, 0, none⟩) n c (upd X k x) (upd A k s) := by
  obtain ⟨ys, h1, h2⟩ := h.row
  have hg := sets_grown g (ndC x s).toList u (k * 31)
  have own : ∀ j, j < n → ∀ l, l < 5 → OwnL (u.setCells g (k * 31) (ndC x s).toList) base (upd X k x j) (upd A k s j) l := fun j hj l hl => by
    by_cases e : j = k
    · subst e; rw [upd_at, upd_at]; exact ((hx.own l hl).low hB).kept hg ((hx.own l hl).off h1)
    · rw [upd_ne _ _ e, upd_ne _ _ e]; exact (h.own j hj l hl).kept hg ((h.own j hj l hl).off h1)
  have row := own_setMany (ndC x s).toList (o := k * 31) h1
  refine ⟨⟨_, row, h2.put hk h1.1 x s⟩, own, fun i j hi hj l m hl hm q e1 e2 => ?_, fun j hj l hl q e => ⟨((own j hj l hl).lt q e).2, (own j hj l hl).row row q e⟩, fun q e => (row.lt q e).2⟩
  by_cases ei : i = k <;> by_cases ej : j = k
  · subst ei; subst ej
    simp only [upd_at] at e1 e2
    exact ⟨rfl, hx.inj l m hl hm q e1 e2⟩
  · subst ei
    simp only [upd_at, upd_ne _ _ ej] at e1 e2
    have := ((hx.own l hl).lt q e1).1
    have := (h.apt.blk j hj m hm q e2).1
    omega
  · subst ej
    simp only [upd_at, upd_ne _ _ ei] at e1 e2
    have := ((hx.own m hm).lt q e2).1
    have := (h.apt.blk i hi l hl q e1).1
    omega
  · simp only [upd_ne _ _ ei, upd_ne _ _ ej] at e1 e2
    exact h.apt.inj i j hi hj l m hl hm q e1 e2
/-- Node k of a scene has another Parent. -/
theorem SG.putPar {u : World} {base T g n c k : Nat} {X : Nat → Nd} {A : Nat → Na} (h : SG u base T (some ⟨g, 0, none⟩) n c X A) (hk : k < n) (q : Int) : SG (u.setCell ⟨g, k * 31 + 1, none⟩ (.int .i64 q)) base T (some ⟨g, 0, none⟩) n c (upd X k ((X k).withPar q)) A := by
  obtain ⟨ys, h1, h2⟩ := h.row
  have hg := setc_grown u g (k * 31 + 1) (.int .i64 q)
  have hl0 := h1.1
  refine ⟨⟨_, (h1.stored (k * 31 + 1) _).1, fun j hj m v hv => ?_⟩, fun j hj l hl => ?_, fun i j hi hj l m hl hm r e1 e2 => ?_, fun j hj l hl r e => ?_, h.apt.row⟩
  · have hm : m < 31 := by have := (Array.getElem?_eq_some_iff.1 hv).1; rwa [ndC_size] at this
    by_cases e : j = k
    · subst e
      rw [upd_at, ← ndC_par] at hv
      by_cases em : m = 1
      · subst em
        rw [List.getElem?_set_self (by omega)]
        rw [Array.getElem?_setIfInBounds_self_of_lt (by rw [ndC_size]; omega)] at hv
        exact hv
      · rw [List.getElem?_set_ne (by omega)]
        rw [Array.getElem?_setIfInBounds_ne (by omega)] at hv
        exact h2 j hj m v hv
    · rw [upd_ne _ _ e] at hv
      rw [List.getElem?_set_ne (by omega)]
      exact h2 j hj m v hv
  · have o := (h.own j hj l hl).kept hg ((h.own j hj l hl).off h1)
    by_cases e : j = k
    · subst e; rw [upd_at]; exact o.withPar q
    · rw [upd_ne _ _ e]; exact o
  · have f : ∀ t l, lvl (upd X k ((X k).withPar q) t) (A t) l = lvl (X t) (A t) l := fun t l => by
      by_cases e : t = k
      · subst e; rw [upd_at, lvl_par]
      · rw [upd_ne _ _ e]
    simp only [f] at e1 e2
    exact h.apt.inj i j hi hj l m hl hm r e1 e2
  · have f : ∀ t l, lvl (upd X k ((X k).withPar q) t) (A t) l = lvl (X t) (A t) l := fun t l => by
      by_cases e : t = k
      · subst e; rw [upd_at, lvl_par]
      · rw [upd_ne _ _ e]
    simp only [f] at e
    exact h.apt.blk j hj l hl r e
noncomputable def setX (X : Nat → Nd) (n : Nat) (x : Nd) : Nat → Nd := if setC16 X n x = 0 then upd X (firstN X x.id n).toNat (x.withPar (X (firstN X x.id n).toNat).par) else X
theorem upd_twice {α : Type} (f : Nat → α) (k : Nat) (v v' : α) : upd (upd f k v) k v' = upd f k v' := by
  funext j
  by_cases e : j = k
  · subst e; rw [upd_at, upd_at]
  · rw [upd_ne _ _ e, upd_ne _ _ e, upd_ne _ _ e]
theorem set_ok {X : Nat → Nd} {n : Nat} {x : Nd} (h : setC16 X n x = 0) : ScOk X n ∧ nodeOkB x = true ∧ ¬ firstN X x.id n < 0 ∧ ¬ (x.gr = false ∧ 0 < (kidsL X n x.id).length) := by
  unfold setC16 at h
  split at h
  · cases h
  · next h1 =>
    have h1' := Classical.not_not.1 h1
    split at h
    · cases h
    · next h2 =>
      split at h
      · cases h
      · next h3 => exact ⟨sceneOk_iff.1 h1'.1, h1'.2, h2, h3⟩
theorem par_fit (x : Nd) (q : Int) (h : x.Small) : (x.withPar q).Small := ⟨h.nv, h.np, h.nd, h.mv, h.mp⟩
theorem set_fits (X : Nat → Nd) (n : Nat) (x : Nd) (hn : n ≤ 1048576) (ht : scT X n ≤ 1048576) (hs : ∀ i, i < n → (X i).Small) (hx : x.Small) : n ≤ 1048576 ∧ (∀ i, i < n → (setX X n x i).Small) ∧ scT (setX X n x) n ≤ 1048576 := by
  by_cases h : setC16 X n x = 0
  · rw [show setX X n x = upd X (firstN X x.id n).toNat (x.withPar (X (firstN X x.id n).toNat).par) from if_pos h]
    obtain ⟨h1, h2, _⟩ := set_ok h
    have hx2 := node_fit h2
    have hb : ∀ i, i < n → (upd X (firstN X x.id n).toNat (x.withPar (X (firstN X x.id n).toNat).par) i).Small ∧ (upd X (firstN X x.id n).toNat (x.withPar (X (firstN X x.id n).toNat).par) i).tot ≤ 200 := fun i hi => by
      by_cases e : i = (firstN X x.id n).toNat
      · rw [e, upd_at]; exact ⟨par_fit _ _ hx2.1, hx2.2⟩
      · rw [upd_ne _ _ e]; exact node_fit (okAt_iff.1 (h1.2 i hi)).1
    refine ⟨hn, fun i hi => (hb i hi).1, ?_⟩
    have := sumT_fit (fun i hi => (hb i hi).2)
    have := h1.1
    unfold scT
    omega
  · rw [show setX X n x = X from if_neg h]
    exact ⟨hn, hs, ht⟩
end Go.Proofs.YtmafopckplpajabGreatDoor

/-
  The program's mayChange, mayCreate, maySet.
-/
namespace Go.Proofs.YtmafopckplpajabGreatDoor
open Go.RowKit
set_option linter.unusedVariables false

set_option maxHeartbeats 4000000 in
theorem implMayChange_any (X : Nat → Nd) (A : Nat → Na) (ao : Option Addr) (n cp : Nat) (hn : n ≤ 1048576) (hs : ∀ i, i < n → (X i).Small) (hw : Wf X n) (id : Int) (w : World) (P : ∀ i, i < n → NrAt w ao i (X i) (A i)) :
    Calls Tryz.prog 58 #[.agg #[.slice ao n cp], .int .i64 id] w fun r w' => r = .returned (errV (changeC X n id)) ∧ Below w.heap.size w w' := by
  have E1 := hide (fun u => implSceneOk_any X A ao n cp hn hs hw.id hw.par u)
  have E2 := hide (fun u => implNodeAt_any X A ao n cp hn id u)
  replace P := hide P
  clear hs hw
  obtain ⟨C, hC⟩ : ∃ C, Hid (C = errV (changeC X n id)) := ⟨_, rfl⟩
  rw [← unhide hC]
  have hC' := hide (show C = errV (if ¬ sceneOkB X n = true then 1 else if firstN X id n < 0 then 2 else 0) from unhide hC)
  clear hC
  go_enter Tryz.func58, Tryz.ntmps58
  go_upto_region 1 with fail
  have R := hide (new_row w (.cells #[.slice ao n cp] 43))
  have HB := hide (al1_below w (.cells #[.slice ao n cp] 43))
  obtain ⟨b1, hb1⟩ : ∃ z, Hid (z = w.heap.size) := ⟨_, rfl⟩
  rw [← unhide hb1] at R ⊢
  clear hb1
  generalize w.alloc (.cells #[.slice ao n cp] 43) = W at R HB ⊢
  have c0 := row1 (unhide R)
  go_wp2_with fail
  go_fit (unhide E1 _ (fun i hi => (unhide P i hi).next (unhide HB)))
  rintro r u1 ⟨rfl, hb⟩
  replace R := hide (row_next hb (unhide R))
  replace HB := hide (below_two (unhide HB) hb)
  clear hb c0 E1
  cases hok : sceneOkB X n with
  | false =>
    rw [hok, if_pos (by simp)] at hC'
    rw [errV_is (by decide)] at hC'
    clear hok
    go_wp2_with fail
    go_ret
    exact ⟨by rw [unhide hC']; rfl, unhide HB⟩
  | true =>
    rw [hok, if_neg (by simp)] at hC'
    clear hok
    have c0 := row1 (unhide R)
    go_wp2_with fail
    go_fit (unhide E2 _ (fun i hi => (unhide P i hi).next (unhide HB)))
    rintro r u2 ⟨rfl, hb⟩
    replace HB := hide (below_two (unhide HB) hb)
    clear hb c0 E2
    by_cases hf : firstN X id n < 0
    · rw [if_pos hf, errV_is (by decide)] at hC'
      generalize firstN X id n = Z at hf ⊢
      go_wp2_with fail
      go_ret
      exact ⟨by rw [unhide hC']; rfl, unhide HB⟩
    · rw [if_neg hf, errV_nil] at hC'
      generalize firstN X id n = Z at hf ⊢
      go_wp2_with fail
      go_ret
      exact ⟨by rw [unhide hC']; rfl, unhide HB⟩

theorem ids_len {w w' : World} {r : Ending} {L : List Int} (h : IdsRes w r w' L) : ∃ p cp, r = .returned (.slice p L.length cp) ∧ Below w.heap.size w w' := let ⟨p, cp, h1, _, h3⟩ := h; ⟨p, cp, h1, h3⟩

set_option maxHeartbeats 8000000 in
set_option maxRecDepth 100000 in
theorem implMaySet_any (X : Nat → Nd) (A : Nat → Na) (ao : Option Addr) (n cp : Nat) (hn : n ≤ 1048576) (hs : ∀ i, i < n → (X i).Small) (hw : Wf X n) (x : Nd) (s : Na) (hx : x.Small) (w : World) (P : ∀ i, i < n → NrAt w ao i (X i) (A i)) (H : NdIn w x s) :
    Calls Tryz.prog 30 #[.agg #[.slice ao n cp], .agg (ndC x s)] w fun r w' => r = .returned (errV (setC16 X n x)) ∧ Below w.heap.size w w' := by
  have E1 := hide (fun u => implNodeOk_c x s hx u)
  have E2 := hide (fun u => implMayChange_any X A ao n cp hn hs hw x.id u)
  have E3 := hide (fun u P => (implKidsOf_any X A ao n cp hn x.id u P).mono fun _ _ h => ids_len h)
  have hL := hide (show (kidsL X n x.id).length ≤ n from pick_le X _ n)
  replace P := hide P
  replace H := hide H
  clear hs hw hx
  obtain ⟨C, hC⟩ : ∃ C, Hid (C = errV (setC16 X n x)) := ⟨_, rfl⟩
  rw [← unhide hC]
  have hC' := hide (show C = errV (if ¬ (sceneOkB X n = true ∧ nodeOkB x = true) then 1 else if firstN X x.id n < 0 then 2 else if x.gr = false ∧ 0 < (kidsL X n x.id).length then 1 else 0) from unhide hC)
  clear hC
  go_enter Tryz.func30, Tryz.ntmps30
  go_upto_region 1 with fail
  have R1 := hide (al2_0 w (.cells #[.slice ao n cp] 43) (.cells (ndC x s) 56))
  have R2 := hide (al2_1 w (.cells #[.slice ao n cp] 43) (.cells (ndC x s) 56))
  have HB := hide (al2_below w (.cells #[.slice ao n cp] 43) (.cells (ndC x s) 56))
  obtain ⟨b2, hb2⟩ : ∃ b, Hid (b = w.heap.size + 1) := ⟨_, rfl⟩
  obtain ⟨b1, hb1⟩ : ∃ b, Hid (b = w.heap.size) := ⟨_, rfl⟩
  rw [← unhide hb2] at R2
  rw [← unhide hb1] at R1
  rw [← unhide hb2, ← unhide hb1]
  generalize (w.alloc (.cells #[.slice ao n cp] 43)).alloc (.cells (ndC x s) 56) = W at R1 R2 HB ⊢
  clear hb2 hb1
  go_wp2_with (refine load_own rfl _ rfl b2 rfl x s 56 (unhide R2) ?_)
  go_fit (unhide E1 _ ((unhide H).next (unhide HB)))
  rintro r u1 ⟨rfl, hb⟩
  replace R1 := hide (row_next hb (unhide R1))
  replace R2 := hide (row_next hb (unhide R2))
  replace HB := hide (below_two (unhide HB) hb)
  clear hb E1
  cases hok : nodeOkB x with
  | false =>
    rw [hok, if_pos (by simp), errV_is (by decide)] at hC'
    clear hok
    go_wp2_with fail
    go_ret
    exact ⟨by rw [unhide hC']; rfl, unhide HB⟩
  | true =>
    rw [hok] at hC'
    clear hok
    have c0 := row1 (unhide R1)
    obtain ⟨d0, d1, d2⟩ := headsC (unhide R2)
    have F2 := hide (unhide E2 _ (fun i hi => (unhide P i hi).next (unhide HB)))
    go_wp2_with fail
    go_fit (unhide F2)
    rintro r u2 ⟨rfl, hb⟩
    replace R1 := hide (row_next hb (unhide R1))
    replace R2 := hide (row_next hb (unhide R2))
    replace HB := hide (below_two (unhide HB) hb)
    clear hb c0 d0 d1 d2 E2 F2
    cases hok : sceneOkB X n with
    | false =>
      rw [hok, if_pos (by simp), errV_is (by decide)] at hC'
      rw [show changeC X n x.id = 1 from if_pos (by rw [hok]; simp), errV_is (by decide)]
      clear hok
      go_wp2_with fail
      go_ret
      exact ⟨by rw [unhide hC']; rfl, unhide HB⟩
    | true =>
      rw [hok, if_neg (by simp)] at hC'
      rw [show changeC X n x.id = (if firstN X x.id n < 0 then 2 else 0) from if_neg (by rw [hok]; simp)]
      clear hok
      by_cases hf : firstN X x.id n < 0
      · rw [if_pos hf, errV_is (by decide)] at hC'
        rw [if_pos hf, errV_is (by decide)]
        clear hf
        go_wp2_with fail
        go_ret
        exact ⟨by rw [unhide hC']; rfl, unhide HB⟩
      · rw [if_neg hf] at hC'
        rw [if_neg hf, errV_nil]
        clear hf
        have c0 := row1 (unhide R1)
        obtain ⟨d0, d1, d2⟩ := headsC (unhide R2)
        cases hg : x.gr with
        | true =>
          rw [hg] at d2
          rw [hg, if_neg (by simp), errV_nil] at hC'
          go_wp2_with fail
          go_ret
          exact ⟨by rw [unhide hC']; rfl, unhide HB⟩
        | false =>
          rw [hg] at d2
          rw [hg] at hC'
          have F3 := hide (unhide E3 _ (fun i hi => (unhide P i hi).next (unhide HB)))
          go_wp2_with fail
          go_fit (unhide F3)
          rintro r u3 ⟨p, cp', rfl, hb⟩
          replace HB := hide (below_two (unhide HB) hb)
          clear hb F3 c0 d0 d1 d2 hg
          by_cases h0 : 0 < (kidsL X n x.id).length
          · rw [if_pos (by simp [h0]), errV_is (by decide)] at hC'
            have h0' : (0 : Int) < ((kidsL X n x.id).length : Int) := by omega
            go_wp2_with fail
            go_ret
            exact ⟨by rw [unhide hC']; rfl, unhide HB⟩
          · rw [if_neg (fun e => h0 e.2), errV_nil] at hC'
            have h0' : ¬ (0 : Int) < ((kidsL X n x.id).length : Int) := by omega
            go_wp2_with fail
            go_ret
            exact ⟨by rw [unhide hC']; rfl, unhide HB⟩
end Go.Proofs.YtmafopckplpajabGreatDoor

/-
  The program's CreateNode. (By changeb.py.)
-/
namespace Go.Proofs.YtmafopckplpajabGreatDoor
open Go.RowKit
set_option linter.unusedVariables false

end Go.Proofs.YtmafopckplpajabGreatDoor

/-
  The specification's copies of paths and nodes. (By copys.py.)
-/
namespace Go.Proofs.YtmafopckplpajabGreatDoor
open Go.RowKit
set_option linter.unusedVariables false

/-- 'append' onto an empty list of one's own, in a region that draws. -/
theorem wp_append_ints {oo : Oper} {a : Act} {K : Act → World → Prop} {Q : Exit → Act → World → Prop} {V : World} {B : Nat} (s y : Operand)
    (hop : oo.op = .call { callee := .builtin .append, args := #[s, y], argTypes := #[27, 27] })
    (e : Nat) (hWe : B ≤ e) (he : V.heap[e]? = some (.cells #[] 3 (0, 0))) (hB : B ≤ V.heap.size) (hs : a.eval s = .slice (some ⟨e, 0, none⟩) 0 0)
    (ao : Option Addr) (n c : Nat) (f : Nat → Int) (hx : a.eval y = .slice ao n c) (hc : n ≤ c ∧ (ao = none → c = 0)) (H : ∀ i, i < n → IntAt V ao i (f i)) (hn : n ≤ 1048576)
    (hK : ∀ p' c' w', OwnI w' B (.slice p' n c') n f → V.grownBy w' (some e) → K (a.put oo.dst (.slice p' n c')) w') :
    Oper.wp Tryz.prog oo a V K Q := by
  obtain ⟨i, hi, hz, hsize, hby⟩ := info_parts Tryz.info3
  have hown : V.ownsRow B 3 1 (.slice (some ⟨e, 0, none⟩) 0 0) 0 [] := ⟨rfl, .inr ⟨e, 0, #[], rfl, hWe, he, Nat.le_refl _, Nat.zero_le _, rfl, rfl⟩⟩
  cases ao with
  | none =>
    obtain rfl := hc.2 rfl
    obtain rfl : n = 0 := by omega
    have hrun := run_append_owned_none (P := Tryz.prog) (w := V) B 27 oo.type 3 i 1 Tryz.underlying27 hi _ 0 [] hown
    unfold Oper.wp
    simp [execOp, hop, resolve, invoke, builtin, hs, hx, hrun, Result.andThen]
    exact hK _ _ _ ⟨[], hown, fun j hj => absurd hj (by omega)⟩ ⟨rfl, rfl, rfl, Nat.le_refl _, fun _ _ _ => rfl⟩
  | some ad =>
    have VE : ∀ j u, (isL1 f n)[j]? = some u → V.cell? (ad.add j) = some u := by
      rcases Nat.eq_zero_or_pos n with h0 | h0
      · subst h0; intro j u hu; simp [isL1] at hu
      · obtain ⟨s0, o0, e, _⟩ := H 0 h0
        cases e
        exact isL1_cells H
    refine wp_append_own V s y 27 hop B 3 i (.int .i64 0) 1 8 Tryz.underlying27 hi hz hsize hby rfl (by decide) _ 0 [] hs hown ad n c (isL1 f n) hx (isL1_len f n) VE (isL1_one f n) (by unfold maxLen; omega) (by omega) hB ?_
    intro v' w' ho' hg' _
    rw [Nat.zero_add, List.nil_append] at ho'
    obtain ⟨p', c', rfl⟩ := own_form ho'
    exact hK p' c' w' ⟨_, ho', isL1_at f n⟩ hg'
theorem step_append_ints {ops : Array Oper} {oo : Oper} {a : Act} {K : Act → World → Prop} {Q : Exit → Act → World → Prop} {E : Prop} {V : World} {B : Nat} (hg : oo.guard = none) (s y : Operand)
    (hop : oo.op = .call { callee := .builtin .append, args := #[s, y], argTypes := #[27, 27] })
    (e : Nat) (hWe : B ≤ e) (he : V.heap[e]? = some (.cells #[] 3 (0, 0))) (hB : B ≤ V.heap.size) (hs : a.eval s = .slice (some ⟨e, 0, none⟩) 0 0)
    (ao : Option Addr) (n c : Nat) (f : Nat → Int) (hx : a.eval y = .slice ao n c) (hc : n ≤ c ∧ (ao = none → c = 0)) (H : ∀ i, i < n → IntAt V ao i (f i)) (hn : n ≤ 1048576)
    (hK : ∀ p' c' w', OwnI w' B (.slice p' n c') n f → V.grownBy w' (some e) → K (a.put oo.dst (.slice p' n c')) w') :
    if Region.wanted oo (yielded ops a.tmps) = true then Oper.wp Tryz.prog oo a V K Q else E := by
  have hw : Region.wanted oo (yielded ops a.tmps) = true := by simp [Region.wanted, hg]
  rw [if_pos hw]
  exact wp_append_ints s y hop e hWe he hB hs ao n c f hx hc H hn hK

/-- 'append' onto an empty list of one's own, in a region that draws. -/
theorem wp_append_points {oo : Oper} {a : Act} {K : Act → World → Prop} {Q : Exit → Act → World → Prop} {V : World} {B : Nat} (s y : Operand)
    (hop : oo.op = .call { callee := .builtin .append, args := #[s, y], argTypes := #[48, 48] })
    (e : Nat) (hWe : B ≤ e) (he : V.heap[e]? = some (.cells #[] 52 (0, 0))) (hB : B ≤ V.heap.size) (hs : a.eval s = .slice (some ⟨e, 0, none⟩) 0 0)
    (ao : Option Addr) (n c : Nat) (f : Nat → Int × Int) (hx : a.eval y = .slice ao n c) (hc : n ≤ c ∧ (ao = none → c = 0)) (H : ∀ i, i < n → PtArg V ao i (f i)) (hn : n ≤ 1048576)
    (hK : ∀ p' c' w', OwnP w' B (.slice p' n c') n f → V.grownBy w' (some e) → K (a.put oo.dst (.slice p' n c')) w') :
    Oper.wp Tryz.prog oo a V K Q := by
  obtain ⟨i, hi, hz, hsize, hby⟩ := info_parts infoPoint
  have hown : V.ownsRow B 52 2 (.slice (some ⟨e, 0, none⟩) 0 0) 0 [] := ⟨rfl, .inr ⟨e, 0, #[], rfl, hWe, he, Nat.le_refl _, Nat.zero_le _, rfl, rfl⟩⟩
  cases ao with
  | none =>
    obtain rfl := hc.2 rfl
    obtain rfl : n = 0 := by omega
    have hrun := run_append_owned_none (P := Tryz.prog) (w := V) B 48 oo.type 52 i 2 Tryz.underlying48 hi _ 0 [] hown
    unfold Oper.wp
    simp [execOp, hop, resolve, invoke, builtin, hs, hx, hrun, Result.andThen]
    exact hK _ _ _ ⟨[], hown, fun j hj => absurd hj (by omega)⟩ ⟨rfl, rfl, rfl, Nat.le_refl _, fun _ _ _ => rfl⟩
  | some ad =>
    have VE : ∀ j u, (isL2 f n)[j]? = some u → V.cell? (ad.add j) = some u := by
      rcases Nat.eq_zero_or_pos n with h0 | h0
      · subst h0; intro j u hu; simp [isL2] at hu
      · obtain ⟨s0, o0, e, _⟩ := H 0 h0
        cases e
        exact isL2_cells H
    refine wp_append_own V s y 48 hop B 52 i (.agg #[.int .i64 0, .int .i64 0]) 2 16 Tryz.underlying48 hi hz hsize hby rfl (by decide) _ 0 [] hs hown ad n c (isL2 f n) hx (isL2_len f n) VE (isL2_one f n) (by unfold maxLen; omega) (by omega) hB ?_
    intro v' w' ho' hg' _
    rw [Nat.zero_add, List.nil_append] at ho'
    obtain ⟨p', c', rfl⟩ := own_form ho'
    exact hK p' c' w' ⟨_, ho', isL2_at f n⟩ hg'
theorem step_append_points {ops : Array Oper} {oo : Oper} {a : Act} {K : Act → World → Prop} {Q : Exit → Act → World → Prop} {E : Prop} {V : World} {B : Nat} (hg : oo.guard = none) (s y : Operand)
    (hop : oo.op = .call { callee := .builtin .append, args := #[s, y], argTypes := #[48, 48] })
    (e : Nat) (hWe : B ≤ e) (he : V.heap[e]? = some (.cells #[] 52 (0, 0))) (hB : B ≤ V.heap.size) (hs : a.eval s = .slice (some ⟨e, 0, none⟩) 0 0)
    (ao : Option Addr) (n c : Nat) (f : Nat → Int × Int) (hx : a.eval y = .slice ao n c) (hc : n ≤ c ∧ (ao = none → c = 0)) (H : ∀ i, i < n → PtArg V ao i (f i)) (hn : n ≤ 1048576)
    (hK : ∀ p' c' w', OwnP w' B (.slice p' n c') n f → V.grownBy w' (some e) → K (a.put oo.dst (.slice p' n c')) w') :
    if Region.wanted oo (yielded ops a.tmps) = true then Oper.wp Tryz.prog oo a V K Q else E := by
  have hw : Region.wanted oo (yielded ops a.tmps) = true := by simp [Region.wanted, hg]
  rw [if_pos hw]
  exact wp_append_points s y hop e hWe he hB hs ao n c f hx hc H hn hK

theorem OwnI.keptE {w u : World} {base n e : Nat} {v : Value} {f : Nat → Int} (h : OwnI w base v n f) (hg : w.grownBy u (some e)) (he : w.heap[e]? = some (.cells #[] 52 (0, 0))) : OwnI u base v n f := by
  obtain ⟨xs, h1, h2⟩ := h
  have hown : w.ownsRow 0 52 2 (.slice (some ⟨e, 0, none⟩) 0 0) 0 [] := ⟨rfl, .inr ⟨e, 0, #[], rfl, Nat.zero_le _, he, Nat.le_refl _, Nat.zero_le _, rfl, rfl⟩⟩
  refine ⟨xs, h1.kept hg ?_, h2⟩
  cases hk : v.ownBlock with
  | none => exact .inl rfl
  | some k => exact .inr fun e' => own_kind h1 hown (by decide) k hk e'.symm
theorem OwnP.keptE {w u : World} {base n e : Nat} {v : Value} {f : Nat → Int × Int} (h : OwnP w base v n f) (hg : w.grownBy u (some e)) (he : w.heap[e]? = some (.cells #[] 3 (0, 0))) : OwnP u base v n f := by
  obtain ⟨xs, h1, h2⟩ := h
  have hown : w.ownsRow 0 3 1 (.slice (some ⟨e, 0, none⟩) 0 0) 0 [] := ⟨rfl, .inr ⟨e, 0, #[], rfl, Nat.zero_le _, he, Nat.le_refl _, Nat.zero_le _, rfl, rfl⟩⟩
  refine ⟨xs, h1.kept hg ?_, h2⟩
  cases hk : v.ownBlock with
  | none => exact .inl rfl
  | some k => exact .inr fun e' => own_kind h1 hown (by decide) k hk e'.symm

set_option maxHeartbeats 8000000 in
set_option maxRecDepth 100000 in
theorem specCopyPath_any (vf : Nat → Int) (pf : Nat → Int × Int) (ao bo : Option Addr) (n c m d : Nat) (hn : n ≤ 1048576) (hm : m ≤ 1048576) (hc : n ≤ c ∧ (ao = none → c = 0)) (hd : m ≤ d ∧ (bo = none → d = 0)) (w : World)
    (VV : ∀ i, i < n → IntAt w ao i (vf i)) (PP : ∀ i, i < m → PtArg w bo i (pf i)) :
    Calls Tryz.prog 52 #[.agg #[.slice ao n c, .slice bo m d]] w fun r w' => ∃ a' c' b' d', r = .returned (.agg #[.slice a' n c', .slice b' m d']) ∧ OwnI w' w.heap.size (.slice a' n c') n vf ∧ OwnP w' w.heap.size (.slice b' m d') m pf ∧ Below w.heap.size w w' := by
  replace VV := hide VV
  replace PP := hide PP
  go_enter Tryz.func52, Tryz.ntmps52
  go_upto_region 1 with fail
  have R1 := hide (al2_0 w (.cells #[.slice ao n c, .slice bo m d] 50) (.cells #[.slice none 0 0, .slice none 0 0] 50))
  have R2 := hide (al2_1 w (.cells #[.slice ao n c, .slice bo m d] 50) (.cells #[.slice none 0 0, .slice none 0 0] 50))
  have HW := hide (al2_below w (.cells #[.slice ao n c, .slice bo m d] 50) (.cells #[.slice none 0 0, .slice none 0 0] 50))
  obtain ⟨b2, hb2⟩ : ∃ b, Hid (b = w.heap.size + 1) := ⟨_, rfl⟩
  obtain ⟨b1, hb1⟩ : ∃ b, Hid (b = w.heap.size) := ⟨_, rfl⟩
  have lw : Hid (b1 < b2 ∧ w.heap.size ≤ b2) := by unfold Hid; rw [unhide hb2, unhide hb1]; omega
  rw [← unhide hb2] at R2
  rw [← unhide hb1] at R1
  rw [← unhide hb2, ← unhide hb1]
  generalize (w.alloc (.cells #[.slice ao n c, .slice bo m d] 50)).alloc (.cells #[.slice none 0 0, .slice none 0 0] 50) = W at R1 R2 HW ⊢
  clear hb2 hb1
  have l2 := hide (show b2 < W.heap.size from heap_lt (unhide R2))
  have lb := hide (show b1 < W.heap.size ∧ b2 < W.heap.size from ⟨heap_lt (unhide R1), heap_lt (unhide R2)⟩)
  have nb := hide (show b1 ≠ b2 by have := unhide lw; omega)
  have ne1 : ¬ b1 = b2 := unhide nb
  have ne2 : ¬ b2 = b1 := fun e => ne1 e.symm
  refine wp_region_held_drew (S := (fun u => u.cell? ⟨b1, 0, none⟩ = some (.slice ao n c) ∧ u.cell? ⟨b1, 1, none⟩ = some (.slice bo m d))) (by kernel_rfl) ?_ (fun hHeld => ?_)
  · exact row2 (unhide R1)
  have HB := hide (show Below W.heap.size W W.drew from (Below.refl _ _).drew)
  replace R1 := hide (row_next (unhide HB) (unhide R1))
  replace R2 := hide (row_next (unhide HB) (unhide R2))
  generalize W.drew = V0 at R1 R2 HB hHeld ⊢
  refine wpAnyH_take (i := 1) (oi := { dst := some 4, op := Op.fieldAddr 50 (Operand.tmp 1) 0, type := 0, pos := "l15_scene.go:100", after := #[], guard := none }) (v := ?_) rfl (by kernel_rfl) (by kernel_rfl) (by kernel_rfl) (fun _ _ _ h => h) (Or.inl ⟨by rfl, ?_⟩) (by assumption) ?_
  rotate_left
  · intro w hSw; (try dsimp only at hSw); go_simp <;> with_reducible rfl
  try simp only [Act.put, List.setIfInBounds_toArray, List.set_cons_zero, List.set_cons_succ]
  refine wpAnyH_take (i := 2) (oi := { dst := some 5, op := Op.load 27 (Operand.tmp 4), type := 27, pos := "l15_scene.go:100", after := #[{ on := 1, ground := Ground.data }], guard := none }) (v := ?_) rfl (by kernel_rfl) (by kernel_rfl) (by kernel_rfl) (fun _ _ _ h => h) (Or.inl ⟨by rfl, ?_⟩) (by assumption) ?_
  rotate_left
  · intro w hSw; (try dsimp only at hSw); go_simp <;> with_reducible rfl
  try simp only [Act.put, List.setIfInBounds_toArray, List.set_cons_zero, List.set_cons_succ]
  refine wpAnyH_take (i := 5) (oi := { dst := some 8, op := Op.fieldAddr 50 (Operand.tmp 1) 1, type := 0, pos := "l15_scene.go:100", after := #[], guard := none }) (v := ?_) rfl (by kernel_rfl) (by kernel_rfl) (by kernel_rfl) (fun _ _ _ h => h) (Or.inl ⟨by rfl, ?_⟩) (by assumption) ?_
  rotate_left
  · intro w hSw; (try dsimp only at hSw); go_simp <;> with_reducible rfl
  try simp only [Act.put, List.setIfInBounds_toArray, List.set_cons_zero, List.set_cons_succ]
  refine wpAnyH_take (i := 6) (oi := { dst := some 9, op := Op.load 48 (Operand.tmp 8), type := 48, pos := "l15_scene.go:100", after := #[{ on := 5, ground := Ground.data }], guard := none }) (v := ?_) rfl (by kernel_rfl) (by kernel_rfl) (by kernel_rfl) (fun _ _ _ h => h) (Or.inl ⟨by rfl, ?_⟩) (by assumption) ?_
  rotate_left
  · intro w hSw; (try dsimp only at hSw); go_simp <;> with_reducible rfl
  try simp only [Act.put, List.setIfInBounds_toArray, List.set_cons_zero, List.set_cons_succ]
  refine wpAnyH_ready (rs := [0, 4]) (by kernel_rfl) (by simp) ?_
  refine AllReadyH.cons (o := { dst := some 3, op := Op.buildSlice 27 0 #[], type := 27, pos := "l15_scene.go:100", after := #[], guard := none }) rfl (fun K hK => ?_) ?_
  · go_simp
    replace R1 := hide (row_next (al1_below V0 (.cells #[] 3)) (unhide R1))
    replace R2 := hide (row_next (al1_below V0 (.cells #[] 3)) (unhide R2))
    refine hK.out _ _ ?_ (fun hHeld => ?_)
    · exact row2 (unhide R1)
    clear hK K
    try simp only [Act.put, List.setIfInBounds_toArray, List.set_cons_zero, List.set_cons_succ]
    have RE := hide (new_row V0 (.cells #[] 3))
    have le := hide (unhide HB).size
    replace HB := hide (below_two (unhide HB) (al1_below V0 (.cells #[] 3)))
    generalize V0.alloc (.cells #[] 3) = V1 at R1 R2 RE HB hHeld ⊢
    generalize V0.heap.size = ee at RE le ⊢
    refine wpAnyH_ready (rs := [3, 4]) (by kernel_rfl) (by simp) ?_
    refine AllReadyH.cons (o := { dst := some 6, op := Op.call { callee := Callee.builtin Builtin.append, args := #[Operand.tmp 3, Operand.tmp 5], argTypes := #[27, 27] }, type := 27, pos := "l15_scene.go:100", after := #[{ on := 0, ground := Ground.data }, { on := 2, ground := Ground.data }], guard := none }) rfl (fun K hK => ?_) ?_
    · refine step_append_ints rfl _ _ rfl ee (unhide le) (unhide RE) (unhide HB).size rfl ao n c vf rfl hc (fun i hi => (unhide VV i hi).next (below_two (unhide HW) (unhide HB))) hn ?_
      intro p6 c6 V2 oI g6
      replace R1 := hide ((g6.block b1 (heap_lt (unhide R1)) (fun e => by cases e; have := unhide le; have := unhide lb; omega)).trans (unhide R1))
      replace R2 := hide ((g6.block b2 (heap_lt (unhide R2)) (fun e => by cases e; have := unhide le; have := unhide lb; omega)).trans (unhide R2))
      replace HB := hide ((unhide HB).grown g6 (unhide HB).size (fun k hk => by cases hk; exact unhide le))
      refine hK.out _ _ ?_ (fun hHeld => ?_)
      · exact row2 (unhide R1)
      clear hK K RE g6
      try simp only [Act.put, List.setIfInBounds_toArray, List.set_cons_zero, List.set_cons_succ]
      replace oI := hide oI
      refine wpAnyH_ready (rs := [4]) (by kernel_rfl) (by simp) ?_
      refine AllReadyH.cons (o := { dst := some 7, op := Op.buildSlice 48 0 #[], type := 48, pos := "l15_scene.go:100", after := #[], guard := none }) rfl (fun K hK => ?_) ?_
      · go_simp
        replace R1 := hide (row_next (al1_below V2 (.cells #[] 52)) (unhide R1))
        replace R2 := hide (row_next (al1_below V2 (.cells #[] 52)) (unhide R2))
        replace oI := hide ((unhide oI).next (al1_below V2 (.cells #[] 52)))
        refine hK.out _ _ ?_ (fun hHeld => ?_)
        · exact row2 (unhide R1)
        clear hK K
        try simp only [Act.put, List.setIfInBounds_toArray, List.set_cons_zero, List.set_cons_succ]
        have RZ := hide (new_row V2 (.cells #[] 52))
        have lz := hide (unhide HB).size
        replace HB := hide (below_two (unhide HB) (al1_below V2 (.cells #[] 52)))
        generalize V2.alloc (.cells #[] 52) = V3 at R1 R2 oI RZ HB hHeld ⊢
        generalize V2.heap.size = zz at RZ lz ⊢
        refine wpAnyH_ready (rs := [7]) (by kernel_rfl) (by simp) ?_
        refine AllReadyH.cons (o := { dst := some 10, op := Op.call { callee := Callee.builtin Builtin.append, args := #[Operand.tmp 7, Operand.tmp 9], argTypes := #[48, 48] }, type := 48, pos := "l15_scene.go:100", after := #[{ on := 4, ground := Ground.data }, { on := 6, ground := Ground.data }, { on := 3, ground := Ground.chain }], guard := none }) rfl (fun K hK => ?_) ?_
        · refine step_append_points rfl _ _ rfl zz (unhide lz) (unhide RZ) (unhide HB).size rfl bo m d pf rfl hd (fun i hi => (unhide PP i hi).next (below_two (unhide HW) (unhide HB))) hm ?_
          intro p7 c7 V4 oP g6
          replace R1 := hide ((g6.block b1 (heap_lt (unhide R1)) (fun e => by cases e; have := unhide lz; have := unhide lb; omega)).trans (unhide R1))
          replace R2 := hide ((g6.block b2 (heap_lt (unhide R2)) (fun e => by cases e; have := unhide lz; have := unhide lb; omega)).trans (unhide R2))
          replace oI := hide ((unhide oI).keptE g6 (unhide RZ))
          replace HB := hide ((unhide HB).grown g6 (unhide HB).size (fun k hk => by cases hk; exact unhide lz))
          refine hK.out _ _ ?_ (fun hHeld => ?_)
          · exact row2 (unhide R1)
          clear hK K RZ g6
          try simp only [Act.put, List.setIfInBounds_toArray, List.set_cons_zero, List.set_cons_succ]
          replace oP := hide oP
          refine wpAnyH_take (i := 8) (oi := { dst := some 11, op := Op.build 50 #[(0, Operand.tmp 6), (1, Operand.tmp 10)], type := 50, pos := "l15_scene.go:100", after := #[{ on := 3, ground := Ground.data }, { on := 7, ground := Ground.data }], guard := none }) (v := ?_) rfl (by kernel_rfl) (by kernel_rfl) (by kernel_rfl) (fun _ _ _ h => h) (Or.inl ⟨by rfl, ?_⟩) (by assumption) ?_
          rotate_left
          · intro w hSw; (try dsimp only at hSw); go_simp <;> with_reducible rfl
          try simp only [Act.put, List.setIfInBounds_toArray, List.set_cons_zero, List.set_cons_succ]
          refine wpAnyH_ready (rs := [9]) (by kernel_rfl) (by simp) ?_
          refine AllReadyH.cons (o := { dst := none, op := Op.store 50 (Operand.tmp 2) (Operand.tmp 11), type := 0, pos := "l15_scene.go:100", after := #[{ on := 8, ground := Ground.data }, { on := 7, ground := Ground.chain }, { on := 0, ground := Ground.phase }, { on := 1, ground := Ground.phase }, { on := 2, ground := Ground.phase }, { on := 3, ground := Ground.phase }, { on := 4, ground := Ground.phase }, { on := 5, ground := Ground.phase }, { on := 6, ground := Ground.phase }, { on := 7, ground := Ground.phase }, { on := 8, ground := Ground.phase }], guard := none }) rfl (fun K hK => ?_) ?_
          · obtain ⟨e0, e1⟩ := row2 (unhide R2)
            obtain ⟨f0, f1⟩ := free2 (unhide R2)
            go_simp
            refine hK.out _ _ ?_ (fun hHeld => ?_)
            · exact row2 (put2_other (unhide nb) (unhide R1))
            clear hK K
            try simp only [Act.put, List.setIfInBounds_toArray, List.set_cons_zero, List.set_cons_succ]
            refine wpAnyH_done (by kernel_rfl) ?_ _
            obtain ⟨g0, g1⟩ := row2 (put2_row (y0 := .slice p6 n c6) (y1 := .slice p7 m c7) (unhide R2))
            go_wp2_with fail
            refine bodyPost_ret (v := .agg #[.slice p6 n c6, .slice p7 m c7]) (by simp [results, Tryz.results52, go_sem, e0, e1]) rfl ⟨p6, c6, p7, c7, rfl, ?_, ?_, ?_⟩
            · exact (((unhide oI).setc (unhide l2)).setc (unhide l2)).low (unhide HW).size
            · exact (((unhide oP).setc (unhide l2)).setc (unhide l2)).low (unhide HW).size
            · exact below_put2 (below_two (unhide HW) (unhide HB)) (unhide lw).2 _ _
          exact AllReadyH.nil
        exact AllReadyH.nil
      exact AllReadyH.nil
    refine AllReadyH.cons (o := { dst := some 7, op := Op.buildSlice 48 0 #[], type := 48, pos := "l15_scene.go:100", after := #[], guard := none }) rfl (fun K hK => ?_) ?_
    · go_simp
      replace R1 := hide (row_next (al1_below V1 (.cells #[] 52)) (unhide R1))
      replace R2 := hide (row_next (al1_below V1 (.cells #[] 52)) (unhide R2))
      replace RE := hide (row_next (al1_below V1 (.cells #[] 52)) (unhide RE))
      refine hK.out _ _ ?_ (fun hHeld => ?_)
      · exact row2 (unhide R1)
      clear hK K
      try simp only [Act.put, List.setIfInBounds_toArray, List.set_cons_zero, List.set_cons_succ]
      have RZ := hide (new_row V1 (.cells #[] 52))
      have lz := hide (unhide HB).size
      replace HB := hide (below_two (unhide HB) (al1_below V1 (.cells #[] 52)))
      generalize V1.alloc (.cells #[] 52) = V5 at R1 R2 RE RZ HB hHeld ⊢
      generalize V1.heap.size = zz at RZ lz ⊢
      refine wpAnyH_ready (rs := [3]) (by kernel_rfl) (by simp) ?_
      refine AllReadyH.cons (o := { dst := some 6, op := Op.call { callee := Callee.builtin Builtin.append, args := #[Operand.tmp 3, Operand.tmp 5], argTypes := #[27, 27] }, type := 27, pos := "l15_scene.go:100", after := #[{ on := 0, ground := Ground.data }, { on := 2, ground := Ground.data }], guard := none }) rfl (fun K hK => ?_) ?_
      · refine step_append_ints rfl _ _ rfl ee (unhide le) (unhide RE) (unhide HB).size rfl ao n c vf rfl hc (fun i hi => (unhide VV i hi).next (below_two (unhide HW) (unhide HB))) hn ?_
        intro p6 c6 V6 oI g6
        replace R1 := hide ((g6.block b1 (heap_lt (unhide R1)) (fun e => by cases e; have := unhide le; have := unhide lb; omega)).trans (unhide R1))
        replace R2 := hide ((g6.block b2 (heap_lt (unhide R2)) (fun e => by cases e; have := unhide le; have := unhide lb; omega)).trans (unhide R2))
        replace RZ := hide ((g6.block zz (heap_lt (unhide RZ)) (fun e => by cases e; have h1 := unhide RE; rw [unhide RZ] at h1; cases h1)).trans (unhide RZ))
        replace HB := hide ((unhide HB).grown g6 (unhide HB).size (fun k hk => by cases hk; exact unhide le))
        refine hK.out _ _ ?_ (fun hHeld => ?_)
        · exact row2 (unhide R1)
        clear hK K RE g6
        try simp only [Act.put, List.setIfInBounds_toArray, List.set_cons_zero, List.set_cons_succ]
        replace oI := hide oI
        refine wpAnyH_ready (rs := [7]) (by kernel_rfl) (by simp) ?_
        refine AllReadyH.cons (o := { dst := some 10, op := Op.call { callee := Callee.builtin Builtin.append, args := #[Operand.tmp 7, Operand.tmp 9], argTypes := #[48, 48] }, type := 48, pos := "l15_scene.go:100", after := #[{ on := 4, ground := Ground.data }, { on := 6, ground := Ground.data }, { on := 3, ground := Ground.chain }], guard := none }) rfl (fun K hK => ?_) ?_
        · refine step_append_points rfl _ _ rfl zz (unhide lz) (unhide RZ) (unhide HB).size rfl bo m d pf rfl hd (fun i hi => (unhide PP i hi).next (below_two (unhide HW) (unhide HB))) hm ?_
          intro p7 c7 V7 oP g6
          replace R1 := hide ((g6.block b1 (heap_lt (unhide R1)) (fun e => by cases e; have := unhide lz; have := unhide lb; omega)).trans (unhide R1))
          replace R2 := hide ((g6.block b2 (heap_lt (unhide R2)) (fun e => by cases e; have := unhide lz; have := unhide lb; omega)).trans (unhide R2))
          replace oI := hide ((unhide oI).keptE g6 (unhide RZ))
          replace HB := hide ((unhide HB).grown g6 (unhide HB).size (fun k hk => by cases hk; exact unhide lz))
          refine hK.out _ _ ?_ (fun hHeld => ?_)
          · exact row2 (unhide R1)
          clear hK K RZ g6
          try simp only [Act.put, List.setIfInBounds_toArray, List.set_cons_zero, List.set_cons_succ]
          replace oP := hide oP
          refine wpAnyH_take (i := 8) (oi := { dst := some 11, op := Op.build 50 #[(0, Operand.tmp 6), (1, Operand.tmp 10)], type := 50, pos := "l15_scene.go:100", after := #[{ on := 3, ground := Ground.data }, { on := 7, ground := Ground.data }], guard := none }) (v := ?_) rfl (by kernel_rfl) (by kernel_rfl) (by kernel_rfl) (fun _ _ _ h => h) (Or.inl ⟨by rfl, ?_⟩) (by assumption) ?_
          rotate_left
          · intro w hSw; (try dsimp only at hSw); go_simp <;> with_reducible rfl
          try simp only [Act.put, List.setIfInBounds_toArray, List.set_cons_zero, List.set_cons_succ]
          refine wpAnyH_ready (rs := [9]) (by kernel_rfl) (by simp) ?_
          refine AllReadyH.cons (o := { dst := none, op := Op.store 50 (Operand.tmp 2) (Operand.tmp 11), type := 0, pos := "l15_scene.go:100", after := #[{ on := 8, ground := Ground.data }, { on := 7, ground := Ground.chain }, { on := 0, ground := Ground.phase }, { on := 1, ground := Ground.phase }, { on := 2, ground := Ground.phase }, { on := 3, ground := Ground.phase }, { on := 4, ground := Ground.phase }, { on := 5, ground := Ground.phase }, { on := 6, ground := Ground.phase }, { on := 7, ground := Ground.phase }, { on := 8, ground := Ground.phase }], guard := none }) rfl (fun K hK => ?_) ?_
          · obtain ⟨e0, e1⟩ := row2 (unhide R2)
            obtain ⟨f0, f1⟩ := free2 (unhide R2)
            go_simp
            refine hK.out _ _ ?_ (fun hHeld => ?_)
            · exact row2 (put2_other (unhide nb) (unhide R1))
            clear hK K
            try simp only [Act.put, List.setIfInBounds_toArray, List.set_cons_zero, List.set_cons_succ]
            refine wpAnyH_done (by kernel_rfl) ?_ _
            obtain ⟨g0, g1⟩ := row2 (put2_row (y0 := .slice p6 n c6) (y1 := .slice p7 m c7) (unhide R2))
            go_wp2_with fail
            refine bodyPost_ret (v := .agg #[.slice p6 n c6, .slice p7 m c7]) (by simp [results, Tryz.results52, go_sem, e0, e1]) rfl ⟨p6, c6, p7, c7, rfl, ?_, ?_, ?_⟩
            · exact (((unhide oI).setc (unhide l2)).setc (unhide l2)).low (unhide HW).size
            · exact (((unhide oP).setc (unhide l2)).setc (unhide l2)).low (unhide HW).size
            · exact below_put2 (below_two (unhide HW) (unhide HB)) (unhide lw).2 _ _
          exact AllReadyH.nil
        exact AllReadyH.nil
      exact AllReadyH.nil
    exact AllReadyH.nil
  refine AllReadyH.cons (o := { dst := some 7, op := Op.buildSlice 48 0 #[], type := 48, pos := "l15_scene.go:100", after := #[], guard := none }) rfl (fun K hK => ?_) ?_
  · go_simp
    replace R1 := hide (row_next (al1_below V0 (.cells #[] 52)) (unhide R1))
    replace R2 := hide (row_next (al1_below V0 (.cells #[] 52)) (unhide R2))
    refine hK.out _ _ ?_ (fun hHeld => ?_)
    · exact row2 (unhide R1)
    clear hK K
    try simp only [Act.put, List.setIfInBounds_toArray, List.set_cons_zero, List.set_cons_succ]
    have RZ := hide (new_row V0 (.cells #[] 52))
    have lz := hide (unhide HB).size
    replace HB := hide (below_two (unhide HB) (al1_below V0 (.cells #[] 52)))
    generalize V0.alloc (.cells #[] 52) = V8 at R1 R2 RZ HB hHeld ⊢
    generalize V0.heap.size = zz at RZ lz ⊢
    refine wpAnyH_ready (rs := [0]) (by kernel_rfl) (by simp) ?_
    refine AllReadyH.cons (o := { dst := some 3, op := Op.buildSlice 27 0 #[], type := 27, pos := "l15_scene.go:100", after := #[], guard := none }) rfl (fun K hK => ?_) ?_
    · go_simp
      replace R1 := hide (row_next (al1_below V8 (.cells #[] 3)) (unhide R1))
      replace R2 := hide (row_next (al1_below V8 (.cells #[] 3)) (unhide R2))
      replace RZ := hide (row_next (al1_below V8 (.cells #[] 3)) (unhide RZ))
      refine hK.out _ _ ?_ (fun hHeld => ?_)
      · exact row2 (unhide R1)
      clear hK K
      try simp only [Act.put, List.setIfInBounds_toArray, List.set_cons_zero, List.set_cons_succ]
      have RE := hide (new_row V8 (.cells #[] 3))
      have le := hide (unhide HB).size
      replace HB := hide (below_two (unhide HB) (al1_below V8 (.cells #[] 3)))
      generalize V8.alloc (.cells #[] 3) = V9 at R1 R2 RZ RE HB hHeld ⊢
      generalize V8.heap.size = ee at RE le ⊢
      refine wpAnyH_ready (rs := [3]) (by kernel_rfl) (by simp) ?_
      refine AllReadyH.cons (o := { dst := some 6, op := Op.call { callee := Callee.builtin Builtin.append, args := #[Operand.tmp 3, Operand.tmp 5], argTypes := #[27, 27] }, type := 27, pos := "l15_scene.go:100", after := #[{ on := 0, ground := Ground.data }, { on := 2, ground := Ground.data }], guard := none }) rfl (fun K hK => ?_) ?_
      · refine step_append_ints rfl _ _ rfl ee (unhide le) (unhide RE) (unhide HB).size rfl ao n c vf rfl hc (fun i hi => (unhide VV i hi).next (below_two (unhide HW) (unhide HB))) hn ?_
        intro p6 c6 V10 oI g6
        replace R1 := hide ((g6.block b1 (heap_lt (unhide R1)) (fun e => by cases e; have := unhide le; have := unhide lb; omega)).trans (unhide R1))
        replace R2 := hide ((g6.block b2 (heap_lt (unhide R2)) (fun e => by cases e; have := unhide le; have := unhide lb; omega)).trans (unhide R2))
        replace RZ := hide ((g6.block zz (heap_lt (unhide RZ)) (fun e => by cases e; have h1 := unhide RE; rw [unhide RZ] at h1; cases h1)).trans (unhide RZ))
        replace HB := hide ((unhide HB).grown g6 (unhide HB).size (fun k hk => by cases hk; exact unhide le))
        refine hK.out _ _ ?_ (fun hHeld => ?_)
        · exact row2 (unhide R1)
        clear hK K RE g6
        try simp only [Act.put, List.setIfInBounds_toArray, List.set_cons_zero, List.set_cons_succ]
        replace oI := hide oI
        refine wpAnyH_ready (rs := [7]) (by kernel_rfl) (by simp) ?_
        refine AllReadyH.cons (o := { dst := some 10, op := Op.call { callee := Callee.builtin Builtin.append, args := #[Operand.tmp 7, Operand.tmp 9], argTypes := #[48, 48] }, type := 48, pos := "l15_scene.go:100", after := #[{ on := 4, ground := Ground.data }, { on := 6, ground := Ground.data }, { on := 3, ground := Ground.chain }], guard := none }) rfl (fun K hK => ?_) ?_
        · refine step_append_points rfl _ _ rfl zz (unhide lz) (unhide RZ) (unhide HB).size rfl bo m d pf rfl hd (fun i hi => (unhide PP i hi).next (below_two (unhide HW) (unhide HB))) hm ?_
          intro p7 c7 V11 oP g6
          replace R1 := hide ((g6.block b1 (heap_lt (unhide R1)) (fun e => by cases e; have := unhide lz; have := unhide lb; omega)).trans (unhide R1))
          replace R2 := hide ((g6.block b2 (heap_lt (unhide R2)) (fun e => by cases e; have := unhide lz; have := unhide lb; omega)).trans (unhide R2))
          replace oI := hide ((unhide oI).keptE g6 (unhide RZ))
          replace HB := hide ((unhide HB).grown g6 (unhide HB).size (fun k hk => by cases hk; exact unhide lz))
          refine hK.out _ _ ?_ (fun hHeld => ?_)
          · exact row2 (unhide R1)
          clear hK K RZ g6
          try simp only [Act.put, List.setIfInBounds_toArray, List.set_cons_zero, List.set_cons_succ]
          replace oP := hide oP
          refine wpAnyH_take (i := 8) (oi := { dst := some 11, op := Op.build 50 #[(0, Operand.tmp 6), (1, Operand.tmp 10)], type := 50, pos := "l15_scene.go:100", after := #[{ on := 3, ground := Ground.data }, { on := 7, ground := Ground.data }], guard := none }) (v := ?_) rfl (by kernel_rfl) (by kernel_rfl) (by kernel_rfl) (fun _ _ _ h => h) (Or.inl ⟨by rfl, ?_⟩) (by assumption) ?_
          rotate_left
          · intro w hSw; (try dsimp only at hSw); go_simp <;> with_reducible rfl
          try simp only [Act.put, List.setIfInBounds_toArray, List.set_cons_zero, List.set_cons_succ]
          refine wpAnyH_ready (rs := [9]) (by kernel_rfl) (by simp) ?_
          refine AllReadyH.cons (o := { dst := none, op := Op.store 50 (Operand.tmp 2) (Operand.tmp 11), type := 0, pos := "l15_scene.go:100", after := #[{ on := 8, ground := Ground.data }, { on := 7, ground := Ground.chain }, { on := 0, ground := Ground.phase }, { on := 1, ground := Ground.phase }, { on := 2, ground := Ground.phase }, { on := 3, ground := Ground.phase }, { on := 4, ground := Ground.phase }, { on := 5, ground := Ground.phase }, { on := 6, ground := Ground.phase }, { on := 7, ground := Ground.phase }, { on := 8, ground := Ground.phase }], guard := none }) rfl (fun K hK => ?_) ?_
          · obtain ⟨e0, e1⟩ := row2 (unhide R2)
            obtain ⟨f0, f1⟩ := free2 (unhide R2)
            go_simp
            refine hK.out _ _ ?_ (fun hHeld => ?_)
            · exact row2 (put2_other (unhide nb) (unhide R1))
            clear hK K
            try simp only [Act.put, List.setIfInBounds_toArray, List.set_cons_zero, List.set_cons_succ]
            refine wpAnyH_done (by kernel_rfl) ?_ _
            obtain ⟨g0, g1⟩ := row2 (put2_row (y0 := .slice p6 n c6) (y1 := .slice p7 m c7) (unhide R2))
            go_wp2_with fail
            refine bodyPost_ret (v := .agg #[.slice p6 n c6, .slice p7 m c7]) (by simp [results, Tryz.results52, go_sem, e0, e1]) rfl ⟨p6, c6, p7, c7, rfl, ?_, ?_, ?_⟩
            · exact (((unhide oI).setc (unhide l2)).setc (unhide l2)).low (unhide HW).size
            · exact (((unhide oP).setc (unhide l2)).setc (unhide l2)).low (unhide HW).size
            · exact below_put2 (below_two (unhide HW) (unhide HB)) (unhide lw).2 _ _
          exact AllReadyH.nil
        exact AllReadyH.nil
      exact AllReadyH.nil
    exact AllReadyH.nil
  exact AllReadyH.nil

theorem wpList_append_ints {ops : Array Oper} {rest : List Oper} {oo : Oper} {a : Act} {Q : Exit → Act → World → Prop} {V : World} {B : Nat} (hgd : oo.guard = none) (s y : Operand)
    (hop : oo.op = .call { callee := .builtin .append, args := #[s, y], argTypes := #[27, 27] })
    (e : Nat) (hWe : B ≤ e) (he : V.heap[e]? = some (.cells #[] 3 (0, 0))) (hB : B ≤ V.heap.size) (hs : a.eval s = .slice (some ⟨e, 0, none⟩) 0 0)
    (ao : Option Addr) (n c : Nat) (f : Nat → Int) (hx : a.eval y = .slice ao n c) (hc : n ≤ c ∧ (ao = none → c = 0)) (H : ∀ i, i < n → IntAt V ao i (f i)) (hn : n ≤ 1048576)
    (h : ∀ p' c' w', OwnI w' B (.slice p' n c') n f → V.grownBy w' (some e) → wpList Tryz.prog ops Q rest (a.put oo.dst (.slice p' n c')) w') : wpList Tryz.prog ops Q (oo :: rest) a V :=
  wpList_plain hgd fun _ hK => wp_append_ints s y hop e hWe he hB hs ao n c f hx hc H hn (fun p' c' w' ho hg => hK _ _ (h p' c' w' ho hg))

end Go.Proofs.YtmafopckplpajabGreatDoor

/-
  The specification's copies of nodes. (By copys.py.)
-/
namespace Go.Proofs.YtmafopckplpajabGreatDoor
open Go.RowKit
set_option linter.unusedVariables false

set_option maxHeartbeats 8000000 in
set_option maxRecDepth 100000 in
theorem specCopyNode_any (x : Nd) (s : Na) (hs : x.Small) (hc : Caps x s) (w : World) (h : NdIn w x s) :
    Calls Tryz.prog 23 #[.agg (ndC x s)] w fun r w' => ∃ s', r = .returned (.agg (ndC x s')) ∧ NdG w' w.heap.size x s' ∧ Below w.heap.size w w' := by
  have E1 := hide (fun u (hu : Below w.heap.size w u) => specCopyPath_any x.vf x.pf s.av s.ap x.nv s.cv x.np s.cp hs.nv hs.np hc.v hc.p u (h.next hu).v (h.next hu).p)
  have D2 := hide (fun u (hu : Below w.heap.size w u) => (h.next hu).d)
  have n2 := hs.nd
  have c2' := hide hc.d
  have E3 := hide (fun u (hu : Below w.heap.size w u) => specCopyPath_any x.wf x.qf s.bv s.bp x.mv s.dv x.mp s.dp hs.mv hs.mp hc.cv hc.cp u (h.next hu).cv (h.next hu).cp)
  clear hs hc h
  go_enter Tryz.func23, Tryz.ntmps23
  go_upto_region 1 with fail
  have R := hide (al2_0 w (.cells (ndC x s) 56) (.cells #[.int .i64 0, .int .i64 0, .bool false, .int .i64 0, .int .i64 0, .int .i64 0, .int .i64 0, .int .i64 0, .int .i64 0, .slice none 0 0, .slice none 0 0, .bool false, .int .i64 0, .slice none 0 0, .int .i64 0, .int .i64 0, .int .i64 0, .int .i64 0, .int .i64 0, .int .i64 0, .int .i64 0, .int .i64 0, .int .i64 0, .int .i64 0, .int .i64 0, .int .i64 0, .int .i64 0, .int .i64 0, .int .i64 0, .slice none 0 0, .slice none 0 0] 56))
  have R2 := hide (al2_1 w (.cells (ndC x s) 56) (.cells #[.int .i64 0, .int .i64 0, .bool false, .int .i64 0, .int .i64 0, .int .i64 0, .int .i64 0, .int .i64 0, .int .i64 0, .slice none 0 0, .slice none 0 0, .bool false, .int .i64 0, .slice none 0 0, .int .i64 0, .int .i64 0, .int .i64 0, .int .i64 0, .int .i64 0, .int .i64 0, .int .i64 0, .int .i64 0, .int .i64 0, .int .i64 0, .int .i64 0, .int .i64 0, .int .i64 0, .int .i64 0, .int .i64 0, .slice none 0 0, .slice none 0 0] 56))
  have HB := hide (al2_below w (.cells (ndC x s) 56) (.cells #[.int .i64 0, .int .i64 0, .bool false, .int .i64 0, .int .i64 0, .int .i64 0, .int .i64 0, .int .i64 0, .int .i64 0, .slice none 0 0, .slice none 0 0, .bool false, .int .i64 0, .slice none 0 0, .int .i64 0, .int .i64 0, .int .i64 0, .int .i64 0, .int .i64 0, .int .i64 0, .int .i64 0, .int .i64 0, .int .i64 0, .int .i64 0, .int .i64 0, .int .i64 0, .int .i64 0, .int .i64 0, .int .i64 0, .slice none 0 0, .slice none 0 0] 56))
  obtain ⟨b2, hb2⟩ : ∃ b, Hid (b = w.heap.size + 1) := ⟨_, rfl⟩
  obtain ⟨b1, hb1⟩ : ∃ b, Hid (b = w.heap.size) := ⟨_, rfl⟩
  have lz : Hid (w.heap.size ≤ b1 ∧ w.heap.size ≤ b2 ∧ b1 < b2) := by unfold Hid; rw [unhide hb2, unhide hb1]; omega
  rw [← unhide hb2] at R2
  rw [← unhide hb1] at R
  rw [← unhide hb2, ← unhide hb1]
  generalize (w.alloc (.cells (ndC x s) 56)).alloc (.cells #[.int .i64 0, .int .i64 0, .bool false, .int .i64 0, .int .i64 0, .int .i64 0, .int .i64 0, .int .i64 0, .int .i64 0, .slice none 0 0, .slice none 0 0, .bool false, .int .i64 0, .slice none 0 0, .int .i64 0, .int .i64 0, .int .i64 0, .int .i64 0, .int .i64 0, .int .i64 0, .int .i64 0, .int .i64 0, .int .i64 0, .int .i64 0, .int .i64 0, .int .i64 0, .int .i64 0, .int .i64 0, .int .i64 0, .slice none 0 0, .slice none 0 0] 56) = W at R R2 HB ⊢
  clear hb2 hb1
  obtain ⟨C, hC⟩ : ∃ C : Array Value, Hid (#[.int .i64 0, .int .i64 0, .bool false, .int .i64 0, .int .i64 0, .int .i64 0, .int .i64 0, .int .i64 0, .int .i64 0, .slice none 0 0, .slice none 0 0, .bool false, .int .i64 0, .slice none 0 0, .int .i64 0, .int .i64 0, .int .i64 0, .int .i64 0, .int .i64 0, .int .i64 0, .int .i64 0, .int .i64 0, .int .i64 0, .int .i64 0, .int .i64 0, .int .i64 0, .int .i64 0, .int .i64 0, .int .i64 0, .slice none 0 0, .slice none 0 0] = C) := ⟨_, rfl⟩
  rw [unhide hC] at R2
  have hz := hide (show C.size = 31 by rw [← unhide hC]; rfl)
  clear hC
  have l1 := hide (show b1 < W.heap.size from heap_lt (unhide R))
  have l2 := hide (show b2 < W.heap.size from heap_lt (unhide R2))
  -- the path
  obtain ⟨c0, c1, c2, c3, c4, c5, c6, c7, c8, c9, c10, c11, c12, c13, c14, c15, c16, c17, c18, c19, c20, c21, c22, c23, c24, c25, c26, c27, c28, c29, c30⟩ := row31 (unhide R)
  go_wp2_with fail
  go_fit (unhide E1 _ (unhide HB))
  rintro r u1 ⟨a1, d1, a2, d2, rfl, o0, o1, hb⟩
  replace o0 := hide o0
  replace o1 := hide o1
  clear c0 c1 c2 c3 c4 c5 c6 c7 c8 c9 c10 c11 c12 c13 c14 c15 c16 c17 c18 c19 c20 c21 c22 c23 c24 c25 c26 c27 c28 c29 c30
  replace R := hide (row_next hb (unhide R))
  replace R2 := hide (row_next hb (unhide R2))
  replace HB := hide (below_two (unhide HB) hb)
  have s1 := hide (show W.heap.size ≤ u1.heap.size from hb.size)
  clear hb
  obtain ⟨c0, c1, c2, c3, c4, c5, c6, c7, c8, c9, c10, c11, c12, c13, c14, c15, c16, c17, c18, c19, c20, c21, c22, c23, c24, c25, c26, c27, c28, c29, c30⟩ := row31 (unhide R)
  have f9 := frozen_of_row u1 b1 9 _ _ (unhide R)
  have f10 := frozen_of_row u1 b1 10 _ _ (unhide R)
  go_upto_region 2 with fail
  clear c0 c1 c2 c3 c4 c5 c6 c7 c8 c9 c10 c11 c12 c13 c14 c15 c16 c17 c18 c19 c20 c21 c22 c23 c24 c25 c26 c27 c28 c29 c30 f9 f10
  replace R := hide (setC (j := 10) (v := .slice a2 x.np d2) (setC (j := 9) (v := .slice a1 x.nv d1) (unhide R)))
  rw [ndC_set9, ndC_set10] at R
  replace R2 := hide (setc_other (b := b1) (j := 10) (v := .slice a2 x.np d2) (Nat.ne_of_gt (unhide lz).2.2) (setc_other (b := b1) (j := 9) (v := .slice a1 x.nv d1) (Nat.ne_of_gt (unhide lz).2.2) (unhide R2)))
  replace HB := hide (((unhide HB).setCell (p := ⟨b1, 9, none⟩) (unhide lz).1 (.slice a1 x.nv d1)).setCell (p := ⟨b1, 10, none⟩) (unhide lz).1 (.slice a2 x.np d2))
  replace o0 := hide (((unhide o0).setc (j := 9) (u := .slice a1 x.nv d1) (unhide l1)).setc (j := 10) (u := .slice a2 x.np d2) (unhide l1))
  replace o1 := hide (((unhide o1).setc (j := 9) (u := .slice a1 x.nv d1) (unhide l1)).setc (j := 10) (u := .slice a2 x.np d2) (unhide l1))
  replace s1 := hide (show W.heap.size ≤ ((u1.setCell ⟨b1, 9, none⟩ (.slice a1 x.nv d1)).setCell ⟨b1, 10, none⟩ (.slice a2 x.np d2)).heap.size by simpa [World.setCell] using unhide s1)
  generalize (u1.setCell ⟨b1, 9, none⟩ (.slice a1 x.nv d1)).setCell ⟨b1, 10, none⟩ (.slice a2 x.np d2) = U1 at R R2 HB o0 o1 s1 ⊢
  clear u1
  obtain ⟨c0, c1, c2, c3, c4, c5, c6, c7, c8, c9, c10, c11, c12, c13, c14, c15, c16, c17, c18, c19, c20, c21, c22, c23, c24, c25, c26, c27, c28, c29, c30⟩ := row31 (unhide R)
  go_wp2_with fail
  go_fit (unhide E3 _ (unhide HB))
  rintro r u2 ⟨a4, d4, a5, d5, rfl, o3, o4, hb⟩
  replace o3 := hide o3
  replace o4 := hide o4
  clear c0 c1 c2 c3 c4 c5 c6 c7 c8 c9 c10 c11 c12 c13 c14 c15 c16 c17 c18 c19 c20 c21 c22 c23 c24 c25 c26 c27 c28 c29 c30
  replace R := hide (row_next hb (unhide R))
  replace R2 := hide (row_next hb (unhide R2))
  replace HB := hide (below_two (unhide HB) hb)
  have q0 := hide (show ∀ k, (Value.slice a1 x.nv d1).ownBlock = some k → k < U1.heap.size from fun k e => ((unhide o0).lt k e).2)
  have q1 := hide (show ∀ k, (Value.slice a2 x.np d2).ownBlock = some k → k < U1.heap.size from fun k e => ((unhide o1).lt k e).2)
  have s2 := hide (show U1.heap.size ≤ u2.heap.size from hb.size)
  replace o0 := hide ((unhide o0).next hb)
  replace o1 := hide ((unhide o1).next hb)
  clear hb
  obtain ⟨c0, c1, c2, c3, c4, c5, c6, c7, c8, c9, c10, c11, c12, c13, c14, c15, c16, c17, c18, c19, c20, c21, c22, c23, c24, c25, c26, c27, c28, c29, c30⟩ := row31 (unhide R)
  have f29 := frozen_of_row u2 b1 29 _ _ (unhide R)
  have f30 := frozen_of_row u2 b1 30 _ _ (unhide R)
  go_upto_region 3 with fail
  clear c0 c1 c2 c3 c4 c5 c6 c7 c8 c9 c10 c11 c12 c13 c14 c15 c16 c17 c18 c19 c20 c21 c22 c23 c24 c25 c26 c27 c28 c29 c30 f29 f30
  have l4 := hide (show b1 < U1.heap.size from Nat.lt_of_lt_of_le (unhide l1) (unhide s1))
  replace R := hide (setC (j := 30) (v := .slice a5 x.mp d5) (setC (j := 29) (v := .slice a4 x.mv d4) (unhide R)))
  rw [ndC_set29, ndC_set30] at R
  replace R2 := hide (setc_other (b := b1) (j := 30) (v := .slice a5 x.mp d5) (Nat.ne_of_gt (unhide lz).2.2) (setc_other (b := b1) (j := 29) (v := .slice a4 x.mv d4) (Nat.ne_of_gt (unhide lz).2.2) (unhide R2)))
  replace HB := hide (((unhide HB).setCell (p := ⟨b1, 29, none⟩) (unhide lz).1 (.slice a4 x.mv d4)).setCell (p := ⟨b1, 30, none⟩) (unhide lz).1 (.slice a5 x.mp d5))
  replace o0 := hide (((unhide o0).setc (j := 29) (u := .slice a4 x.mv d4) (unhide l1)).setc (j := 30) (u := .slice a5 x.mp d5) (unhide l1))
  replace o1 := hide (((unhide o1).setc (j := 29) (u := .slice a4 x.mv d4) (unhide l1)).setc (j := 30) (u := .slice a5 x.mp d5) (unhide l1))
  replace o3 := hide (((unhide o3).setc (j := 29) (u := .slice a4 x.mv d4) (unhide l4)).setc (j := 30) (u := .slice a5 x.mp d5) (unhide l4))
  replace o4 := hide (((unhide o4).setc (j := 29) (u := .slice a4 x.mv d4) (unhide l4)).setc (j := 30) (u := .slice a5 x.mp d5) (unhide l4))
  replace s2 := hide (show U1.heap.size ≤ ((u2.setCell ⟨b1, 29, none⟩ (.slice a4 x.mv d4)).setCell ⟨b1, 30, none⟩ (.slice a5 x.mp d5)).heap.size by simpa [World.setCell] using unhide s2)
  generalize (u2.setCell ⟨b1, 29, none⟩ (.slice a4 x.mv d4)).setCell ⟨b1, 30, none⟩ (.slice a5 x.mp d5) = U2 at R R2 HB o0 o1 o3 o4 s2 ⊢
  clear u2
  -- the dashes
  have q3 := hide (show ∀ k, (Value.slice a4 x.mv d4).ownBlock = some k → k < U2.heap.size from fun k e => ((unhide o3).lt k e).2)
  have q4 := hide (show ∀ k, (Value.slice a5 x.mp d5).ownBlock = some k → k < U2.heap.size from fun k e => ((unhide o4).lt k e).2)
  have l5 := hide (show b1 < U2.heap.size from Nat.lt_of_lt_of_le (unhide l4) (unhide s2))
  have hbA := hide (al1_below U2 (.cells #[] 3))
  have RA := hide (row_next (unhide hbA) (unhide R))
  have RN := hide (new_row U2 (.cells #[] 3))
  obtain ⟨c0, c1, c2, c3, c4, c5, c6, c7, c8, c9, c10, c11, c12, c13, c14, c15, c16, c17, c18, c19, c20, c21, c22, c23, c24, c25, c26, c27, c28, c29, c30⟩ := row31 (unhide RA)
  go_upto_region 4 with (refine wpList_append_ints (B := U2.heap.size) rfl (.tmp 11) (.tmp 13) rfl U2.heap.size (Nat.le_refl _) (unhide RN) (unhide hbA).size rfl s.ad x.nd s.cd x.df rfl (unhide c2') (unhide D2 _ (below_two (unhide HB) (unhide hbA))) n2 ?_; intro a3 d3 u3 o2 g6; have cC := (g6.block b1 (heap_lt (unhide RA)) (fun e => by cases e; exact absurd (unhide l5) (Nat.lt_irrefl _))).trans (unhide RA); have f13 := frozen_of_row u3 b1 13 _ _ cC; have e13 := (row31 cC).2.2.2.2.2.2.2.2.2.2.2.2.2.1; replace cC := hide cC; replace o2 := hide o2; replace g6 := hide g6)
  clear c0 c1 c2 c3 c4 c5 c6 c7 c8 c9 c10 c11 c12 c13 c14 c15 c16 c17 c18 c19 c20 c21 c22 c23 c24 c25 c26 c27 c28 c29 c30 f13 e13
  replace R := hide (setC (j := 13) (v := .slice a3 x.nd d3) (unhide cC))
  rw [ndC_set13] at R
  have kp : ∀ k, k < U2.heap.size → some k ≠ some U2.heap.size := fun k hk e => by cases e; omega
  replace R2 := hide (setc_other (b := b1) (j := 13) (v := .slice a3 x.nd d3) (Nat.ne_of_gt (unhide lz).2.2) (((unhide g6).block b2 (heap_lt (row_next (unhide hbA) (unhide R2))) (kp b2 (heap_lt (unhide R2)))).trans (row_next (unhide hbA) (unhide R2))))
  have hbG := hide (show Below U2.heap.size U2 u3 from (unhide hbA).grown (unhide g6) (unhide hbA).size (fun k hk => by cases hk; exact Nat.le_refl _))
  replace HB := hide ((below_two (unhide HB) (unhide hbG)).setCell (p := ⟨b1, 13, none⟩) (unhide lz).1 (.slice a3 x.nd d3))
  replace o0 := hide (((unhide o0).next (unhide hbG)).setc (j := 13) (u := .slice a3 x.nd d3) (unhide l1))
  replace o1 := hide (((unhide o1).next (unhide hbG)).setc (j := 13) (u := .slice a3 x.nd d3) (unhide l1))
  replace o3 := hide (((unhide o3).next (unhide hbG)).setc (j := 13) (u := .slice a3 x.nd d3) (unhide l4))
  replace o4 := hide (((unhide o4).next (unhide hbG)).setc (j := 13) (u := .slice a3 x.nd d3) (unhide l4))
  replace o2 := hide ((unhide o2).setc (j := 13) (u := .slice a3 x.nd d3) (unhide l5))
  generalize u3.setCell ⟨b1, 13, none⟩ (.slice a3 x.nd d3) = U3 at R R2 HB o0 o1 o2 o3 o4 ⊢
  clear cC g6 RA RN hbA hbG
  obtain ⟨s', hs'⟩ : ∃ t, Hid (t = ({ s with av := a1, cv := d1, ap := a2, cp := d2, ad := a3, cd := d3, bv := a4, dv := d4, bp := a5, dp := d5 } : Na)) := ⟨_, rfl⟩
  replace R := hide (show U3.heap[b1]? = some (.cells (ndC x s') 56 (0, 0)) by rw [unhide hs']; exact unhide R)
  have hG := hide (show NdG U3 W.heap.size x s' by
    rw [unhide hs']
    exact ndG_of (b1 := U2.heap.size) (b2 := U1.heap.size) (b3 := U2.heap.size) (unhide o0) (unhide o1) (unhide o2) (unhide o3) (unhide o4) ⟨fun k e => by have := unhide q0 k e; have := unhide s2; omega, fun k e => by have := unhide q1 k e; have := unhide s2; omega, fun k e => .inr ((unhide o2).lt k e).1, unhide q3, unhide q4⟩ (by have := unhide s1; have := unhide s2; omega))
  clear o0 o1 o2 o3 o4 q0 q1 q3 q4 E1 E3 D2 c2' hs'
  go_wp2_with (first | refine load_own rfl _ rfl b1 rfl x s' 56 (unhide R) ?_ | refine wpList_store_row rfl 56 _ _ rfl b2 (ndC x s') rfl rfl 56 _ (unhide R2) (ndC_info x s') (by rw [unhide hz]; rfl) (ndC_one x s') ?_)
  have R2' := hide (setRow_heap _ _ _ (ndC x s') _ _ (unhide R2))
  refine bodyPost_ret (v := .agg (ndC x s')) (results_cell_row rfl _ _ b2 56 _ (0, 0) _ rfl (unhide R2') Tryz.underlying56 rfl (ndC_info x s')) rfl ⟨s', rfl, ((unhide hG).setRow (unhide l2)).low ?_, below_setRow (unhide HB) (unhide lz).2.1 _⟩
  exact Nat.le_trans (unhide lz).1 (Nat.le_of_lt (unhide l1))

end Go.Proofs.YtmafopckplpajabGreatDoor

/-
  The specification's copies of scenes. (By copyu.py.)
-/
namespace Go.Proofs.YtmafopckplpajabGreatDoor
open Go.RowKit
set_option linter.unusedVariables false

set_option maxHeartbeats 16000000 in
set_option maxRecDepth 100000 in
theorem specCopy_any (X : Nat → Nd) (A : Nat → Na) (ao : Option Addr) (n cp : Nat) (hn : n ≤ 1048576) (hs : ∀ i, i < n → (X i).Small) (hk : ∀ i, i < n → Caps (X i) (A i)) (w : World) (P : ∀ i, i < n → NrAt w ao i (X i) (A i)) :
    Calls Tryz.prog 18 #[.agg #[.slice ao n cp]] w fun r w' => ScRes w r w' n X := by
  have EN := hide (fun k (hk' : k < n) u (hu : Below w.heap.size w u) => specCopyNode_any (X k) (A k) (hs k hk') (hk k hk') u (((P k hk').next hu).inn))
  replace P := hide P
  clear hs hk
  go_enter Tryz.func18, Tryz.ntmps18
  go_upto_region 3 with fail
  have R1 := hide (al3_0 w (.cells #[.slice ao n cp] 43) (.cells #[.slice none 0 0] 43) (.cells #[.slice none 0 0] 43))
  have R2 := hide (al3_1 w (.cells #[.slice ao n cp] 43) (.cells #[.slice none 0 0] 43) (.cells #[.slice none 0 0] 43))
  have R3 := hide (al3_2 w (.cells #[.slice ao n cp] 43) (.cells #[.slice none 0 0] 43) (.cells #[.slice none 0 0] 43))
  have HB := hide (al3_below w (.cells #[.slice ao n cp] 43) (.cells #[.slice none 0 0] 43) (.cells #[.slice none 0 0] 43))
  obtain ⟨b3, hb3⟩ : ∃ b, Hid (b = w.heap.size + 1 + 1) := ⟨_, rfl⟩
  obtain ⟨b2, hb2⟩ : ∃ b, Hid (b = w.heap.size + 1) := ⟨_, rfl⟩
  obtain ⟨b1, hb1⟩ : ∃ b, Hid (b = w.heap.size) := ⟨_, rfl⟩
  rw [← unhide hb3] at R3
  rw [← unhide hb2] at R2
  rw [← unhide hb1] at R1
  rw [← unhide hb3, ← unhide hb2, ← unhide hb1]
  obtain ⟨B0, hB0⟩ : ∃ B, Hid (B = b3 + 1) := ⟨_, rfl⟩
  have lR : Hid (w.heap.size ≤ b1 ∧ b1 < b2 ∧ b2 < b3 ∧ b3 < B0) := by unfold Hid; rw [unhide hB0, unhide hb3, unhide hb2, unhide hb1]; omega
  generalize ((w.alloc (.cells #[.slice ao n cp] 43)).alloc (.cells #[.slice none 0 0] 43)).alloc (.cells #[.slice none 0 0] 43) = W at R1 R2 R3 HB ⊢
  go_loopw [4] (fun i u => ∃ k : Nat, k ≤ n ∧ i = .int .i64 (k : Int) ∧ ∃ p c A', Hid (u.heap[b1]? = some (.cells #[.slice ao n cp] 43 (0, 0))) ∧ Hid (u.heap[b2]? = some (.cells #[.slice none 0 0] 43 (0, 0))) ∧ Hid (u.heap[b3]? = some (.cells #[.slice p k c] 43 (0, 0))) ∧ Hid (Below w.heap.size w u) ∧ Hid (SG u B0 u.heap.size p k c X A')) (fun i _ => n - (intOf i).toNat)
  case atStart => exact ⟨0, Nat.zero_le _, rfl, none, 0, A, R1, R2, R3, HB, sg_nil _ _ _ _ _⟩
  case round =>
    clear R1 R2 R3 HB
    obtain ⟨k, hk, rfl, p, c, A', R1, R2, R3, HB, SGk⟩ := hrel
    by_cases hlt : k < n
    · have hki : (k : Int) < (n : Int) := by omega
      have hkn := hide hk
      obtain ⟨b, o, hao, hrg⟩ := (unhide P k hlt).range
      subst hao
      have PR := hide (show ∀ u, Below w.heap.size w u → u.rangeAt b (o + k * 31) (ndC (X k) (A k)).toList from fun u hu => range_next hrg hu)
      have c0 := row1 (unhide R1)
      have lB := hide (show B0 ≤ wr.heap.size by have := heap_lt (unhide R3); rw [unhide hB0]; omega)
      clear hrg
      go_upto_region 5 with fail
      clear c0
      refine wp_region_held_drew (S := (fun u => u.cell? ⟨b1, 0, none⟩ = some (.slice (some ⟨b, o, none⟩) n cp) ∧ u.rangeAt b (o + k * 31) (ndC (X k) (A k)).toList)) (by kernel_rfl) ?_ (fun hHeld => ?_)
      · exact ⟨row1 (unhide R1), unhide PR _ (unhide HB).drew⟩
      have hdr := hide (show Below wr.heap.size wr wr.drew from (Below.refl _ _).drew)
      replace R1 := hide (row_next (unhide hdr) (unhide R1))
      replace R2 := hide (row_next (unhide hdr) (unhide R2))
      replace R3 := hide (row_next (unhide hdr) (unhide R3))
      replace HB := hide (below_two (unhide HB) (unhide hdr))
      replace SGk := hide (show SG wr.drew B0 wr.drew.heap.size p k c X A' from (unhide SGk).next (unhide hdr))
      replace lB := hide (show B0 ≤ wr.drew.heap.size from unhide lB)
      clear hdr
      generalize wr.drew = V0 at R1 R2 R3 HB SGk lB hHeld ⊢
      have lT := hide (Nat.le_refl V0.heap.size)
      refine wpAnyH_take (i := 0) (oi := { dst := some 13, op := Op.fieldAddr 43 (Operand.tmp 3) 0, type := 0, pos := "l15_scene.go:113", after := #[], guard := none }) (v := ?_) rfl (by kernel_rfl) (by kernel_rfl) (by kernel_rfl) (fun _ _ _ h => h) (Or.inl ⟨by rfl, ?_⟩) (by assumption) ?_
      rotate_left
      · intro w hSw; (try dsimp only at hSw); go_simp <;> with_reducible rfl
      try simp only [Act.put, List.setIfInBounds_toArray, List.set_cons_zero, List.set_cons_succ]
      refine wpAnyH_take (i := 2) (oi := { dst := some 15, op := Op.fieldAddr 43 (Operand.tmp 1) 0, type := 0, pos := "l15_scene.go:113", after := #[], guard := none }) (v := ?_) rfl (by kernel_rfl) (by kernel_rfl) (by kernel_rfl) (fun _ _ _ h => h) (Or.inl ⟨by rfl, ?_⟩) (by assumption) ?_
      rotate_left
      · intro w hSw; (try dsimp only at hSw); go_simp <;> with_reducible rfl
      try simp only [Act.put, List.setIfInBounds_toArray, List.set_cons_zero, List.set_cons_succ]
      refine wpAnyH_take (i := 3) (oi := { dst := some 16, op := Op.load 41 (Operand.tmp 15), type := 41, pos := "l15_scene.go:113", after := #[{ on := 2, ground := Ground.data }], guard := none }) (v := ?_) rfl (by kernel_rfl) (by kernel_rfl) (by kernel_rfl) (fun _ _ _ h => h) (Or.inl ⟨by rfl, ?_⟩) (by assumption) ?_
      rotate_left
      · intro w hSw; (try dsimp only at hSw); go_simp <;> with_reducible rfl
      try simp only [Act.put, List.setIfInBounds_toArray, List.set_cons_zero, List.set_cons_succ]
      refine wpAnyH_take (i := 4) (oi := { dst := some 17, op := Op.move (Operand.tmp 4), type := 3, pos := "l15_scene.go:113", after := #[], guard := none }) (v := ?_) rfl (by kernel_rfl) (by kernel_rfl) (by kernel_rfl) (fun _ _ _ h => h) (Or.inl ⟨by rfl, ?_⟩) (by assumption) ?_
      rotate_left
      · intro w hSw; (try dsimp only at hSw); go_simp <;> with_reducible rfl
      try simp only [Act.put, List.setIfInBounds_toArray, List.set_cons_zero, List.set_cons_succ]
      refine wpAnyH_take (i := 5) (oi := { dst := some 18, op := Op.indexAddr 41 (Operand.tmp 16) (Operand.tmp 17), type := 0, pos := "l15_scene.go:113", after := #[{ on := 3, ground := Ground.data }, { on := 4, ground := Ground.data }], guard := none }) (v := ?_) rfl (by kernel_rfl) (by kernel_rfl) (by kernel_rfl) (fun _ _ _ h => h) (Or.inl ⟨by rfl, ?_⟩) (by assumption) ?_
      rotate_left
      · intro w hSw; (try dsimp only at hSw); go_simp <;> with_reducible rfl
      try simp only [Act.put, List.setIfInBounds_toArray, List.set_cons_zero, List.set_cons_succ]
      refine wpAnyH_take (i := 6) (oi := { dst := some 19, op := Op.load 56 (Operand.tmp 18), type := 56, pos := "l15_scene.go:113", after := #[{ on := 5, ground := Ground.data }], guard := none }) (v := .agg (ndC (X k) (A k))) rfl (by kernel_rfl) (by kernel_rfl) (by kernel_rfl) (fun _ _ _ h => h) (yields_node (by rfl) _ rfl b (o + k * 31) rfl (X k) (A k) (fun w h => h.2)) (by assumption) ?_
      try simp only [Act.put, List.setIfInBounds_toArray, List.set_cons_zero, List.set_cons_succ]
      refine wpAnyH_ready (rs := [1, 7]) (by kernel_rfl) (by simp) ?_
      refine AllReadyH.cons (o := { dst := some 14, op := Op.load 41 (Operand.tmp 13), type := 41, pos := "l15_scene.go:113", after := #[{ on := 0, ground := Ground.data }], guard := none }) rfl (fun K hK => ?_) ?_
      · have cb := row1 (unhide R3)
        go_simp
        refine hK.out _ _ ?_ (fun hHeld => ?_)
        · exact ⟨row1 (unhide R1), unhide PR _ (unhide HB)⟩
        clear hK K
        try simp only [Act.put, List.setIfInBounds_toArray, List.set_cons_zero, List.set_cons_succ]
        clear cb
        refine wpAnyH_ready (rs := [7]) (by kernel_rfl) (by simp) ?_
        refine AllReadyH.cons (o := { dst := some 20, op := Op.call { callee := Callee.value (Operand.func 23), args := #[Operand.tmp 19], argTypes := #[56] }, type := 56, pos := "l15_scene.go:113", after := #[{ on := 6, ground := Ground.data }], guard := none }) rfl (fun K hK => ?_) ?_
        · go_simp
          (go_at_call 23; go_fit (unhide EN k hlt _ (unhide HB)); rintro r V1 ⟨s', rfl, hx, hb⟩)
          replace R1 := hide (row_next hb (unhide R1))
          replace R2 := hide (row_next hb (unhide R2))
          replace R3 := hide (row_next hb (unhide R3))
          replace HB := hide (below_two (unhide HB) hb)
          refine hK.out _ _ ?_ (fun hHeld => ?_)
          · exact ⟨row1 (unhide R1), unhide PR _ (unhide HB)⟩
          clear hK K
          try simp only [Act.put, List.setIfInBounds_toArray, List.set_cons_zero, List.set_cons_succ]
          replace hx := hide hx
          have bC := hide hb
          clear hb
          refine wpAnyH_ready (rs := [8]) (by kernel_rfl) (by simp) ?_
          refine AllReadyH.cons (o := { dst := some 21, op := Op.buildSlice 41 1 #[(0, Operand.tmp 20)], type := 41, pos := "l15_scene.go:113", after := #[{ on := 7, ground := Ground.data }], guard := none }) rfl (fun K hK => ?_) ?_
          · refine step_build_node rfl _ rfl (X k) s' rfl ?_
            replace R1 := hide (row_next (al1_below V1 (.cells (ndC (X k) s') 56)) (unhide R1))
            replace R2 := hide (row_next (al1_below V1 (.cells (ndC (X k) s') 56)) (unhide R2))
            replace R3 := hide (row_next (al1_below V1 (.cells (ndC (X k) s') 56)) (unhide R3))
            replace HB := hide (below_two (unhide HB) (al1_below V1 (.cells (ndC (X k) s') 56)))
            refine hK.out _ _ ?_ (fun hHeld => ?_)
            · exact ⟨row1 (unhide R1), unhide PR _ (unhide HB)⟩
            clear hK K
            try simp only [Act.put, List.setIfInBounds_toArray, List.set_cons_zero, List.set_cons_succ]
            refine wpAnyH_ready (rs := [9]) (by kernel_rfl) (by simp) ?_
            refine AllReadyH.cons (o := { dst := some 22, op := Op.call { callee := Callee.builtin Builtin.append, args := #[Operand.tmp 14, Operand.tmp 21], argTypes := #[41, 41] }, type := 41, pos := "l15_scene.go:113", after := #[{ on := 1, ground := Ground.data }, { on := 8, ground := Ground.data }, { on := 7, ground := Ground.chain }], guard := none }) rfl (fun K hK => ?_) ?_
            · refine step_append_sg rfl _ _ rfl (unhide SGk) (unhide lT) (unhide lB) (unhide bC) (unhide hx) (by have := unhide hkn; omega) rfl rfl ?_
              intro p' c' V2 SGn g6
              replace R1 := hide ((g6.block b1 (heap_lt (unhide R1)) (fun e => by obtain ⟨ys, y1, _⟩ := (unhide SGk).row; have := (y1.lt b1 e.symm).1; have := unhide lR; omega)).trans (unhide R1))
              replace R2 := hide ((g6.block b2 (heap_lt (unhide R2)) (fun e => by obtain ⟨ys, y1, _⟩ := (unhide SGk).row; have := (y1.lt b2 e.symm).1; have := unhide lR; omega)).trans (unhide R2))
              replace R3 := hide ((g6.block b3 (heap_lt (unhide R3)) (fun e => by obtain ⟨ys, y1, _⟩ := (unhide SGk).row; have := (y1.lt b3 e.symm).1; have := unhide lR; omega)).trans (unhide R3))
              replace HB := hide ((unhide HB).grown g6 (unhide HB).size (fun q hq => by obtain ⟨ys, y1, _⟩ := (unhide SGk).row; have := (y1.lt q hq).1; have := unhide lR; omega))
              refine hK.out _ _ ?_ (fun hHeld => ?_)
              · exact ⟨row1 (unhide R1), unhide PR _ (unhide HB)⟩
              clear hK K
              try simp only [Act.put, List.setIfInBounds_toArray, List.set_cons_zero, List.set_cons_succ]
              replace SGn := hide SGn
              clear g6
              refine wpAnyH_take (i := 10) (oi := { dst := some 23, op := Op.fieldAddr 43 (Operand.tmp 3) 0, type := 0, pos := "l15_scene.go:113", after := #[{ on := 0, ground := Ground.phase }, { on := 1, ground := Ground.phase }, { on := 2, ground := Ground.phase }, { on := 3, ground := Ground.phase }, { on := 4, ground := Ground.phase }, { on := 5, ground := Ground.phase }, { on := 6, ground := Ground.phase }, { on := 7, ground := Ground.phase }, { on := 8, ground := Ground.phase }, { on := 9, ground := Ground.phase }], guard := none }) (v := ?_) rfl (by kernel_rfl) (by kernel_rfl) (by kernel_rfl) (fun _ _ _ h => h) (Or.inl ⟨by rfl, ?_⟩) (by assumption) ?_
              rotate_left
              · intro w hSw; (try dsimp only at hSw); go_simp <;> with_reducible rfl
              try simp only [Act.put, List.setIfInBounds_toArray, List.set_cons_zero, List.set_cons_succ]
              refine wpAnyH_ready (rs := [11]) (by kernel_rfl) (by simp) ?_
              refine AllReadyH.cons (o := { dst := none, op := Op.store 41 (Operand.tmp 23) (Operand.tmp 22), type := 0, pos := "l15_scene.go:113", after := #[{ on := 10, ground := Ground.data }, { on := 9, ground := Ground.data }, { on := 9, ground := Ground.chain }, { on := 0, ground := Ground.phase }, { on := 1, ground := Ground.phase }, { on := 2, ground := Ground.phase }, { on := 3, ground := Ground.phase }, { on := 4, ground := Ground.phase }, { on := 5, ground := Ground.phase }, { on := 6, ground := Ground.phase }, { on := 7, ground := Ground.phase }, { on := 8, ground := Ground.phase }, { on := 9, ground := Ground.phase }], guard := none }) rfl (fun K hK => ?_) ?_
              · have cb := row1 (unhide R3)
                have fb := frozen_of_row V2 b3 0 _ _ (unhide R3)
                go_simp
                have R3x := hide (show (V2.setCell ⟨b3, 0, none⟩ (.slice p' (k + 1) c')).heap[b3]? = some (.cells #[(.slice p' (k + 1) c')] 43 (0, 0)) by have := setC (v := (.slice p' (k + 1) c')) (j := 0) (unhide R3); simpa using this)
                replace R1 := hide (setc_other (b := b3) (j := 0) (v := (.slice p' (k + 1) c')) (by have := unhide lR; omega) (unhide R1))
                replace R2 := hide (setc_other (b := b3) (j := 0) (v := (.slice p' (k + 1) c')) (by have := unhide lR; omega) (unhide R2))
                replace R3 := R3x
                clear R3x cb fb
                replace HB := hide ((unhide HB).setCell (p := ⟨b3, 0, none⟩) (by have := unhide lR; dsimp only; omega) (.slice p' (k + 1) c'))
                replace SGn := hide (show SG (V2.setCell ⟨b3, 0, none⟩ (.slice p' (k + 1) c')) B0 (V2.setCell ⟨b3, 0, none⟩ (.slice p' (k + 1) c')).heap.size p' (k + 1) c' (upd X k (X k)) (upd A' k s') by have h := (unhide SGn).setc (b := b3) (j := 0) (v := (.slice p' (k + 1) c')) (by have := unhide lR; omega); simpa [World.setCell] using h)
                refine hK.out _ _ ?_ (fun hHeld => ?_)
                · exact ⟨row1 (unhide R1), unhide PR _ (unhide HB)⟩
                clear hK K
                try simp only [Act.put, List.setIfInBounds_toArray, List.set_cons_zero, List.set_cons_succ]
                refine wpAnyH_done (by kernel_rfl) ?_ _
                rw [upd_self] at SGn
                go_wp2_with fail
                go_roundw
                case rel => exact ⟨k + 1, by omega, by go_num, p', c', _, unhide R1, unhide R2, unhide R3, unhide HB, unhide SGn⟩
                case measure => simp [intOf]; omega
              exact AllReadyH.nil
            exact AllReadyH.nil
          exact AllReadyH.nil
        exact AllReadyH.nil
      refine AllReadyH.cons (o := { dst := some 20, op := Op.call { callee := Callee.value (Operand.func 23), args := #[Operand.tmp 19], argTypes := #[56] }, type := 56, pos := "l15_scene.go:113", after := #[{ on := 6, ground := Ground.data }], guard := none }) rfl (fun K hK => ?_) ?_
      · go_simp
        (go_at_call 23; go_fit (unhide EN k hlt _ (unhide HB)); rintro r V3 ⟨s', rfl, hx, hb⟩)
        replace R1 := hide (row_next hb (unhide R1))
        replace R2 := hide (row_next hb (unhide R2))
        replace R3 := hide (row_next hb (unhide R3))
        replace HB := hide (below_two (unhide HB) hb)
        refine hK.out _ _ ?_ (fun hHeld => ?_)
        · exact ⟨row1 (unhide R1), unhide PR _ (unhide HB)⟩
        clear hK K
        try simp only [Act.put, List.setIfInBounds_toArray, List.set_cons_zero, List.set_cons_succ]
        replace hx := hide hx
        have bC := hide hb
        clear hb
        refine wpAnyH_ready (rs := [1, 8]) (by kernel_rfl) (by simp) ?_
        refine AllReadyH.cons (o := { dst := some 14, op := Op.load 41 (Operand.tmp 13), type := 41, pos := "l15_scene.go:113", after := #[{ on := 0, ground := Ground.data }], guard := none }) rfl (fun K hK => ?_) ?_
        · have cb := row1 (unhide R3)
          go_simp
          refine hK.out _ _ ?_ (fun hHeld => ?_)
          · exact ⟨row1 (unhide R1), unhide PR _ (unhide HB)⟩
          clear hK K
          try simp only [Act.put, List.setIfInBounds_toArray, List.set_cons_zero, List.set_cons_succ]
          clear cb
          refine wpAnyH_ready (rs := [8]) (by kernel_rfl) (by simp) ?_
          refine AllReadyH.cons (o := { dst := some 21, op := Op.buildSlice 41 1 #[(0, Operand.tmp 20)], type := 41, pos := "l15_scene.go:113", after := #[{ on := 7, ground := Ground.data }], guard := none }) rfl (fun K hK => ?_) ?_
          · refine step_build_node rfl _ rfl (X k) s' rfl ?_
            replace R1 := hide (row_next (al1_below V3 (.cells (ndC (X k) s') 56)) (unhide R1))
            replace R2 := hide (row_next (al1_below V3 (.cells (ndC (X k) s') 56)) (unhide R2))
            replace R3 := hide (row_next (al1_below V3 (.cells (ndC (X k) s') 56)) (unhide R3))
            replace HB := hide (below_two (unhide HB) (al1_below V3 (.cells (ndC (X k) s') 56)))
            refine hK.out _ _ ?_ (fun hHeld => ?_)
            · exact ⟨row1 (unhide R1), unhide PR _ (unhide HB)⟩
            clear hK K
            try simp only [Act.put, List.setIfInBounds_toArray, List.set_cons_zero, List.set_cons_succ]
            refine wpAnyH_ready (rs := [9]) (by kernel_rfl) (by simp) ?_
            refine AllReadyH.cons (o := { dst := some 22, op := Op.call { callee := Callee.builtin Builtin.append, args := #[Operand.tmp 14, Operand.tmp 21], argTypes := #[41, 41] }, type := 41, pos := "l15_scene.go:113", after := #[{ on := 1, ground := Ground.data }, { on := 8, ground := Ground.data }, { on := 7, ground := Ground.chain }], guard := none }) rfl (fun K hK => ?_) ?_
            · refine step_append_sg rfl _ _ rfl (unhide SGk) (unhide lT) (unhide lB) (unhide bC) (unhide hx) (by have := unhide hkn; omega) rfl rfl ?_
              intro p' c' V4 SGn g6
              replace R1 := hide ((g6.block b1 (heap_lt (unhide R1)) (fun e => by obtain ⟨ys, y1, _⟩ := (unhide SGk).row; have := (y1.lt b1 e.symm).1; have := unhide lR; omega)).trans (unhide R1))
              replace R2 := hide ((g6.block b2 (heap_lt (unhide R2)) (fun e => by obtain ⟨ys, y1, _⟩ := (unhide SGk).row; have := (y1.lt b2 e.symm).1; have := unhide lR; omega)).trans (unhide R2))
              replace R3 := hide ((g6.block b3 (heap_lt (unhide R3)) (fun e => by obtain ⟨ys, y1, _⟩ := (unhide SGk).row; have := (y1.lt b3 e.symm).1; have := unhide lR; omega)).trans (unhide R3))
              replace HB := hide ((unhide HB).grown g6 (unhide HB).size (fun q hq => by obtain ⟨ys, y1, _⟩ := (unhide SGk).row; have := (y1.lt q hq).1; have := unhide lR; omega))
              refine hK.out _ _ ?_ (fun hHeld => ?_)
              · exact ⟨row1 (unhide R1), unhide PR _ (unhide HB)⟩
              clear hK K
              try simp only [Act.put, List.setIfInBounds_toArray, List.set_cons_zero, List.set_cons_succ]
              replace SGn := hide SGn
              clear g6
              refine wpAnyH_take (i := 10) (oi := { dst := some 23, op := Op.fieldAddr 43 (Operand.tmp 3) 0, type := 0, pos := "l15_scene.go:113", after := #[{ on := 0, ground := Ground.phase }, { on := 1, ground := Ground.phase }, { on := 2, ground := Ground.phase }, { on := 3, ground := Ground.phase }, { on := 4, ground := Ground.phase }, { on := 5, ground := Ground.phase }, { on := 6, ground := Ground.phase }, { on := 7, ground := Ground.phase }, { on := 8, ground := Ground.phase }, { on := 9, ground := Ground.phase }], guard := none }) (v := ?_) rfl (by kernel_rfl) (by kernel_rfl) (by kernel_rfl) (fun _ _ _ h => h) (Or.inl ⟨by rfl, ?_⟩) (by assumption) ?_
              rotate_left
              · intro w hSw; (try dsimp only at hSw); go_simp <;> with_reducible rfl
              try simp only [Act.put, List.setIfInBounds_toArray, List.set_cons_zero, List.set_cons_succ]
              refine wpAnyH_ready (rs := [11]) (by kernel_rfl) (by simp) ?_
              refine AllReadyH.cons (o := { dst := none, op := Op.store 41 (Operand.tmp 23) (Operand.tmp 22), type := 0, pos := "l15_scene.go:113", after := #[{ on := 10, ground := Ground.data }, { on := 9, ground := Ground.data }, { on := 9, ground := Ground.chain }, { on := 0, ground := Ground.phase }, { on := 1, ground := Ground.phase }, { on := 2, ground := Ground.phase }, { on := 3, ground := Ground.phase }, { on := 4, ground := Ground.phase }, { on := 5, ground := Ground.phase }, { on := 6, ground := Ground.phase }, { on := 7, ground := Ground.phase }, { on := 8, ground := Ground.phase }, { on := 9, ground := Ground.phase }], guard := none }) rfl (fun K hK => ?_) ?_
              · have cb := row1 (unhide R3)
                have fb := frozen_of_row V4 b3 0 _ _ (unhide R3)
                go_simp
                have R3x := hide (show (V4.setCell ⟨b3, 0, none⟩ (.slice p' (k + 1) c')).heap[b3]? = some (.cells #[(.slice p' (k + 1) c')] 43 (0, 0)) by have := setC (v := (.slice p' (k + 1) c')) (j := 0) (unhide R3); simpa using this)
                replace R1 := hide (setc_other (b := b3) (j := 0) (v := (.slice p' (k + 1) c')) (by have := unhide lR; omega) (unhide R1))
                replace R2 := hide (setc_other (b := b3) (j := 0) (v := (.slice p' (k + 1) c')) (by have := unhide lR; omega) (unhide R2))
                replace R3 := R3x
                clear R3x cb fb
                replace HB := hide ((unhide HB).setCell (p := ⟨b3, 0, none⟩) (by have := unhide lR; dsimp only; omega) (.slice p' (k + 1) c'))
                replace SGn := hide (show SG (V4.setCell ⟨b3, 0, none⟩ (.slice p' (k + 1) c')) B0 (V4.setCell ⟨b3, 0, none⟩ (.slice p' (k + 1) c')).heap.size p' (k + 1) c' (upd X k (X k)) (upd A' k s') by have h := (unhide SGn).setc (b := b3) (j := 0) (v := (.slice p' (k + 1) c')) (by have := unhide lR; omega); simpa [World.setCell] using h)
                refine hK.out _ _ ?_ (fun hHeld => ?_)
                · exact ⟨row1 (unhide R1), unhide PR _ (unhide HB)⟩
                clear hK K
                try simp only [Act.put, List.setIfInBounds_toArray, List.set_cons_zero, List.set_cons_succ]
                refine wpAnyH_done (by kernel_rfl) ?_ _
                rw [upd_self] at SGn
                go_wp2_with fail
                go_roundw
                case rel => exact ⟨k + 1, by omega, by go_num, p', c', _, unhide R1, unhide R2, unhide R3, unhide HB, unhide SGn⟩
                case measure => simp [intOf]; omega
              exact AllReadyH.nil
            exact AllReadyH.nil
          exact AllReadyH.nil
        refine AllReadyH.cons (o := { dst := some 21, op := Op.buildSlice 41 1 #[(0, Operand.tmp 20)], type := 41, pos := "l15_scene.go:113", after := #[{ on := 7, ground := Ground.data }], guard := none }) rfl (fun K hK => ?_) ?_
        · refine step_build_node rfl _ rfl (X k) s' rfl ?_
          replace R1 := hide (row_next (al1_below V3 (.cells (ndC (X k) s') 56)) (unhide R1))
          replace R2 := hide (row_next (al1_below V3 (.cells (ndC (X k) s') 56)) (unhide R2))
          replace R3 := hide (row_next (al1_below V3 (.cells (ndC (X k) s') 56)) (unhide R3))
          replace HB := hide (below_two (unhide HB) (al1_below V3 (.cells (ndC (X k) s') 56)))
          refine hK.out _ _ ?_ (fun hHeld => ?_)
          · exact ⟨row1 (unhide R1), unhide PR _ (unhide HB)⟩
          clear hK K
          try simp only [Act.put, List.setIfInBounds_toArray, List.set_cons_zero, List.set_cons_succ]
          refine wpAnyH_ready (rs := [1]) (by kernel_rfl) (by simp) ?_
          refine AllReadyH.cons (o := { dst := some 14, op := Op.load 41 (Operand.tmp 13), type := 41, pos := "l15_scene.go:113", after := #[{ on := 0, ground := Ground.data }], guard := none }) rfl (fun K hK => ?_) ?_
          · have cb := row1 (unhide R3)
            go_simp
            refine hK.out _ _ ?_ (fun hHeld => ?_)
            · exact ⟨row1 (unhide R1), unhide PR _ (unhide HB)⟩
            clear hK K
            try simp only [Act.put, List.setIfInBounds_toArray, List.set_cons_zero, List.set_cons_succ]
            clear cb
            refine wpAnyH_ready (rs := [9]) (by kernel_rfl) (by simp) ?_
            refine AllReadyH.cons (o := { dst := some 22, op := Op.call { callee := Callee.builtin Builtin.append, args := #[Operand.tmp 14, Operand.tmp 21], argTypes := #[41, 41] }, type := 41, pos := "l15_scene.go:113", after := #[{ on := 1, ground := Ground.data }, { on := 8, ground := Ground.data }, { on := 7, ground := Ground.chain }], guard := none }) rfl (fun K hK => ?_) ?_
            · refine step_append_sg rfl _ _ rfl (unhide SGk) (unhide lT) (unhide lB) (unhide bC) (unhide hx) (by have := unhide hkn; omega) rfl rfl ?_
              intro p' c' V5 SGn g6
              replace R1 := hide ((g6.block b1 (heap_lt (unhide R1)) (fun e => by obtain ⟨ys, y1, _⟩ := (unhide SGk).row; have := (y1.lt b1 e.symm).1; have := unhide lR; omega)).trans (unhide R1))
              replace R2 := hide ((g6.block b2 (heap_lt (unhide R2)) (fun e => by obtain ⟨ys, y1, _⟩ := (unhide SGk).row; have := (y1.lt b2 e.symm).1; have := unhide lR; omega)).trans (unhide R2))
              replace R3 := hide ((g6.block b3 (heap_lt (unhide R3)) (fun e => by obtain ⟨ys, y1, _⟩ := (unhide SGk).row; have := (y1.lt b3 e.symm).1; have := unhide lR; omega)).trans (unhide R3))
              replace HB := hide ((unhide HB).grown g6 (unhide HB).size (fun q hq => by obtain ⟨ys, y1, _⟩ := (unhide SGk).row; have := (y1.lt q hq).1; have := unhide lR; omega))
              refine hK.out _ _ ?_ (fun hHeld => ?_)
              · exact ⟨row1 (unhide R1), unhide PR _ (unhide HB)⟩
              clear hK K
              try simp only [Act.put, List.setIfInBounds_toArray, List.set_cons_zero, List.set_cons_succ]
              replace SGn := hide SGn
              clear g6
              refine wpAnyH_take (i := 10) (oi := { dst := some 23, op := Op.fieldAddr 43 (Operand.tmp 3) 0, type := 0, pos := "l15_scene.go:113", after := #[{ on := 0, ground := Ground.phase }, { on := 1, ground := Ground.phase }, { on := 2, ground := Ground.phase }, { on := 3, ground := Ground.phase }, { on := 4, ground := Ground.phase }, { on := 5, ground := Ground.phase }, { on := 6, ground := Ground.phase }, { on := 7, ground := Ground.phase }, { on := 8, ground := Ground.phase }, { on := 9, ground := Ground.phase }], guard := none }) (v := ?_) rfl (by kernel_rfl) (by kernel_rfl) (by kernel_rfl) (fun _ _ _ h => h) (Or.inl ⟨by rfl, ?_⟩) (by assumption) ?_
              rotate_left
              · intro w hSw; (try dsimp only at hSw); go_simp <;> with_reducible rfl
              try simp only [Act.put, List.setIfInBounds_toArray, List.set_cons_zero, List.set_cons_succ]
              refine wpAnyH_ready (rs := [11]) (by kernel_rfl) (by simp) ?_
              refine AllReadyH.cons (o := { dst := none, op := Op.store 41 (Operand.tmp 23) (Operand.tmp 22), type := 0, pos := "l15_scene.go:113", after := #[{ on := 10, ground := Ground.data }, { on := 9, ground := Ground.data }, { on := 9, ground := Ground.chain }, { on := 0, ground := Ground.phase }, { on := 1, ground := Ground.phase }, { on := 2, ground := Ground.phase }, { on := 3, ground := Ground.phase }, { on := 4, ground := Ground.phase }, { on := 5, ground := Ground.phase }, { on := 6, ground := Ground.phase }, { on := 7, ground := Ground.phase }, { on := 8, ground := Ground.phase }, { on := 9, ground := Ground.phase }], guard := none }) rfl (fun K hK => ?_) ?_
              · have cb := row1 (unhide R3)
                have fb := frozen_of_row V5 b3 0 _ _ (unhide R3)
                go_simp
                have R3x := hide (show (V5.setCell ⟨b3, 0, none⟩ (.slice p' (k + 1) c')).heap[b3]? = some (.cells #[(.slice p' (k + 1) c')] 43 (0, 0)) by have := setC (v := (.slice p' (k + 1) c')) (j := 0) (unhide R3); simpa using this)
                replace R1 := hide (setc_other (b := b3) (j := 0) (v := (.slice p' (k + 1) c')) (by have := unhide lR; omega) (unhide R1))
                replace R2 := hide (setc_other (b := b3) (j := 0) (v := (.slice p' (k + 1) c')) (by have := unhide lR; omega) (unhide R2))
                replace R3 := R3x
                clear R3x cb fb
                replace HB := hide ((unhide HB).setCell (p := ⟨b3, 0, none⟩) (by have := unhide lR; dsimp only; omega) (.slice p' (k + 1) c'))
                replace SGn := hide (show SG (V5.setCell ⟨b3, 0, none⟩ (.slice p' (k + 1) c')) B0 (V5.setCell ⟨b3, 0, none⟩ (.slice p' (k + 1) c')).heap.size p' (k + 1) c' (upd X k (X k)) (upd A' k s') by have h := (unhide SGn).setc (b := b3) (j := 0) (v := (.slice p' (k + 1) c')) (by have := unhide lR; omega); simpa [World.setCell] using h)
                refine hK.out _ _ ?_ (fun hHeld => ?_)
                · exact ⟨row1 (unhide R1), unhide PR _ (unhide HB)⟩
                clear hK K
                try simp only [Act.put, List.setIfInBounds_toArray, List.set_cons_zero, List.set_cons_succ]
                refine wpAnyH_done (by kernel_rfl) ?_ _
                rw [upd_self] at SGn
                go_wp2_with fail
                go_roundw
                case rel => exact ⟨k + 1, by omega, by go_num, p', c', _, unhide R1, unhide R2, unhide R3, unhide HB, unhide SGn⟩
                case measure => simp [intOf]; omega
              exact AllReadyH.nil
            exact AllReadyH.nil
          exact AllReadyH.nil
        exact AllReadyH.nil
      exact AllReadyH.nil
    · have hke : k = n := by omega
      subst hke
      have hki : ¬ (k : Int) < (k : Int) := by omega
      have c0 := row1 (unhide R1)
      have d0 := row1 (unhide R2)
      have e0 := row1 (unhide R3)
      have f0 := frozen_of_row wr b2 0 _ _ (unhide R2)
      go_wp2_with fail
      refine bodyPost_ret (v := .agg #[.slice p k c]) (by simp [results, Tryz.results18, go_sem, d0]) rfl ⟨p, c, A', rfl, ?_, ?_⟩
      · have h := ((unhide SGk).setc (b := b2) (j := 0) (v := .slice p k c) (by have := unhide lR; omega)).low (base' := w.heap.size) (by have := unhide lR; omega)
        simpa [World.setCell] using h
      · exact (unhide HB).setCell (p := ⟨b2, 0, none⟩) (by have := unhide lR; dsimp only; omega) _
end Go.Proofs.YtmafopckplpajabGreatDoor
