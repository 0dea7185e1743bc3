/-
  ChangeP · ChangeL · ChangeF · ChangeQ · DropP · ScenesP · RankP · PlaceP · ChangeA · DropI · DropJ · ChangeB · BroodP · QueueP · FellP · BroodI: texts of one claim, in one.
-/
import Derived.Test.YtmafopckplpajaaGreatDoorFnExactPlaceNodeM8
import Derived.Test.YtmafopckplpajaaGreatDoorFnExactPlaceNodeM9
import Derived.Test.YtmafopckplpajaaGreatDoorFnExactPlaceNodeM3
import Derived.Lib.SliceRun
import Derived.Test.YtmafopckplpajaaGreatDoorFnExactPlaceNodeM6
import Derived.Deep.AppendLies
import Derived.Deep.RegionHeld3
import Derived.Deep.DeepCutAuto
import Derived.Deep.DeepFit

/-
  Changes: what both sides reckon; guarded loads of nodes.
-/
namespace Go.Proofs.YtmafopckplpajaaGreatDoor
open Go.RowKit
set_option linter.unusedVariables false

/-- A scene and a code that are handed back. -/
def ChRes (w : World) (r : Ending) (w' : World) (c : Int) (n : Nat) (X : Nat → Nd) : Prop := ∃ a cc A, r = .returned (.tuple #[.agg #[.slice a n cc], .int .i64 c]) ∧ SG w' w.heap.size w'.heap.size a n cc X A ∧ Below w.heap.size w w'
noncomputable def createC (X : Nat → Nd) (n : Nat) (x : Nd) : Int :=
  if ¬ (sceneOkB X n = true ∧ nodeOkB x = true) then 1 else if 0 ≤ firstN X x.id n then 3 else if holdB X n x.par = false then 2 else if n = 8 then 4 else if 4 ≤ depthI X n x.par then 5 else 0
noncomputable def changeC (X : Nat → Nd) (n : Nat) (id : Int) : Int := if ¬ sceneOkB X n = true then 1 else if firstN X id n < 0 then 2 else 0
noncomputable def setC16 (X : Nat → Nd) (n : Nat) (x : Nd) : Int :=
  if ¬ (sceneOkB X n = true ∧ nodeOkB x = true) then 1 else if firstN X x.id n < 0 then 2 else if x.gr = false ∧ 0 < (kidsL X n x.id).length then 1 else 0
noncomputable def createN (X : Nat → Nd) (n : Nat) (x : Nd) : Nat := if createC X n x = 0 then n + 1 else n
noncomputable def createX (X : Nat → Nd) (n : Nat) (x : Nd) : Nat → Nd := if createC X n x = 0 then upd X n x else X
theorem errV_is {c : Int} (h : c ≠ 0) : errV c = .iface 130 (.agg #[.int .i64 c]) := if_neg h
theorem errV_nil : errV 0 = .nilIface := if_pos rfl
theorem depth_nn {X : Nat → Nd} {n : Nat} : ∀ (f : Nat) (c id : Int), 0 ≤ c → 0 ≤ depthN X n f c id
  | 0, _, _, _ => by unfold depthN; exact Int.le_refl _
  | f + 1, c, id, h => by
    unfold depthN
    split
    · exact h
    · split
      · exact Int.le_refl _
      · exact depth_nn f (c + 1) _ (by omega)
theorem depth_le {X : Nat → Nd} {n : Nat} : ∀ (f : Nat) (c id : Int), 0 ≤ c → depthN X n f c id ≤ c + f
  | 0, c, _, h => by unfold depthN; omega
  | f + 1, c, id, h => by
    unfold depthN
    split
    · omega
    · split
      · omega
      · have := depth_le (X := X) (n := n) f (c + 1) (X (firstN X id n).toNat).par (by omega); omega
theorem load_own_g {ops : Array Oper} {rest : List Oper} {op : Oper} {a : Act} {w : World} {Q : Exit → Act → World → Prop} (hw : Region.wanted op (yielded ops a.tmps) = true) (y : Operand) (ho : op.op = .load 41 y)
    (b : Nat) (hx : a.eval y = .pointer (some ⟨b, 0, none⟩)) (x : Nd) (s : Na) (t : TypeId) (hc : w.heap[b]? = some (.cells (ndC x s) t (0, 0)))
    (h : wpList Tryz.prog ops Q rest (a.put op.dst (.agg (ndC x s))) w) : wpList Tryz.prog ops Q (op :: rest) a w :=
  wpList_step fun K hK => by
    rw [if_pos hw]
    exact wp_load_mid 41 y ho b 0 hx (ndC x s).toList _ (rowRng hc) Tryz.underlying41 rfl (ndC_infoL x s) (by rw [Array.toArray_toList]; exact hK _ _ h)
structure Wf (X : Nat → Nd) (n : Nat) : Prop where
  id : ∀ i, i < n → (Lit.int .i64 (X i).id).wf = true
  par : ∀ i, i < n → (Lit.int .i64 (X i).par).wf = true
theorem own_ty {w : World} {B e s n b : Nat} {v : Value} {xs : List Value} {cs : Array Value} {t : TypeId} {fz : Nat × Nat} (h : w.ownsRow B e s v n xs) (hb : w.heap[b]? = some (.cells cs t fz)) (ht : t ≠ e) : ∀ k, v.ownBlock = some k → k ≠ b := by
  rcases h.2 with ⟨rfl, _⟩ | ⟨g, cap, cur, rfl, _, hg, _⟩
  · intro k e; cases e
  · intro k e e2
    have e1 : g = k := Option.some.inj e
    subst e1
    subst e2
    rw [hg] at hb
    cases hb
    exact ht rfl
theorem lty_sc (l : Nat) : 26 ≠ lty l := by unfold lty; split <;> decide
/-- A variable of another kind can be written without harm to a scene. -/
theorem SG.setk {u : World} {base T n c b j : Nat} {p : Option Addr} {v : Value} {cs : Array Value} {fz : Nat × Nat} {X : Nat → Nd} {A : Nat → Na} (h : SG u base T p n c X A) (hb : u.heap[b]? = some (.cells cs 26 fz)) : SG (u.setCell ⟨b, j, none⟩ v) base T p n c X A :=
  let ⟨ys, h1, h2⟩ := h.row; ⟨⟨ys, own_setc_ne h1 (own_ty h1 hb (by decide)), h2⟩, fun j hj l hl => let ⟨xs, a1, a2⟩ := h.own j hj l hl; ⟨xs, own_setc_ne a1 (own_ty a1 hb (lty_sc l)), a2⟩, h.apt⟩
end Go.Proofs.YtmafopckplpajaaGreatDoor

/-
  The exact laws of chapter 16, from what the functions of both sides answer. (By changelaw.py.)
-/
namespace Go.Proofs.YtmafopckplpajaaGreatDoor
open Go.RowKit
set_option linter.unusedVariables false

theorem ScV.sg {w : World} {base n c : Nat} {a : Option Addr} {X : Nat → Nd} {A : Nat → Na} (h : ScV w base a n c X A) : SG w base w.heap.size a n c X A := by
  obtain ⟨b, ys, K, lo, rfl, h2, h3, h4, h5⟩ := h
  exact h5.sg h2 h3 h4 h5.top
/-- A node whose lists are one's own, below T. -/
def NdT (w : World) (base T : Nat) (x : Nd) (s : Na) : Prop := NdG w base x s ∧ ∀ l, l < 5 → ∀ k, (lvl x s l).ownBlock = some k → k < T
theorem NdG.ndT {w : World} {base : Nat} {x : Nd} {s : Na} (h : NdG w base x s) : NdT w base w.heap.size x s := ⟨h, fun l hl k e => ((h.own l hl).lt k e).2⟩
theorem NdT.next {w u : World} {base T : Nat} {x : Nd} {s : Na} (h : NdT w base T x s) (hb : Below w.heap.size w u) : NdT u base T x s := ⟨h.1.next hb, h.2⟩
theorem NdT.far {w u : World} {base T b T' : Nat} {x : Nd} {s : Na} (h : NdT w base T x s) (hF : FarB b T' w u) (hd : T ≤ b ∨ T' ≤ base) : NdT u base T x s :=
  ⟨⟨fun l hl => let ⟨xs, a1, a2⟩ := h.1.own l hl; ⟨xs, hF.own a1 (fun k e => by have h1 := h.2 l hl k e; have h2 := (a1.lt k e).1; omega), a2⟩, h.1.inj⟩, h.2⟩
theorem load_lown {ops : Array Oper} {rest : List Oper} {op : Oper} {a : Act} {w : World} {Q : Exit → Act → World → Prop} (hgd : op.guard = none) (y : Operand) (ho : op.op = .load 68 y)
    (b : Nat) (hx : a.eval y = .pointer (some ⟨b, 0, none⟩)) (x : Nd) (s : Na) (t : TypeId) (hc : w.heap[b]? = some (.cells (ndC x s) t (0, 0)))
    (h : wpList Tryz.prog ops Q rest (a.put op.dst (.agg (ndC x s))) w) : wpList Tryz.prog ops Q (op :: rest) a w :=
  load_lnode hgd y ho b 0 hx x s (rowRng hc) h
theorem yields_lnode {ops : Array Oper} {S : World → Prop} {op : Oper} {a : Act} (hw : Region.wanted op (yielded ops a.tmps) = true) (y : Operand) (ho : op.op = .load 68 y)
    (b o : Nat) (hx : a.eval y = .pointer (some ⟨b, o, none⟩)) (x : Nd) (s : Na) (hS : ∀ w, S w → w.rangeAt b o (ndC x s).toList) : YieldsIf Tryz.prog ops S op (.agg (ndC x s)) a := by
  have h := yieldsIf_load_mid (P := Tryz.prog) hw 68 y ho b o hx (ndC x s).toList _ hS Tryz.underlying68 rfl (by rw [Array.length_toList, ndC_size]; exact lnode_size)
  rwa [Array.toArray_toList] at h

set_option maxHeartbeats 4000000 in
theorem markPath_far (v1 v2 : Value) (base n m k : Nat) (hk : k ≤ 1000000000) (hn : n ≤ 1048576) (hm : m ≤ 1048576) (w : World) (h1 : ∃ xs, w.ownsRow base 3 1 v1 n xs) (h2 : ∃ xs, w.ownsRow base 37 2 v2 m xs) :
    Calls Tryz.prog 88 #[.agg #[v1, v2], .int .i64 k] w fun r w' => r = .returned (.int .i64 ((k + n + m * 2 : Nat) : Int)) ∧ ∃ u, Below w.heap.size w u ∧ ∃ u2, u.grownBy u2 v1.ownBlock ∧ u2.grownBy w' v2.ownBlock := by
  obtain ⟨xs, h1⟩ := h1
  obtain ⟨ys, h2⟩ := h2
  obtain ⟨a, c, rfl⟩ := own_form h1
  obtain ⟨b, d, rfl⟩ := own_form h2
  have E1 := hide (fun u zs (hu : u.ownsRow base 3 1 (.slice a n c) n zs) => markIntS_any (.slice a n c) base n k zs (by omega) hn u hu)
  have E2 := hide (fun u zs (hu : u.ownsRow base 37 2 (.slice b m d) m zs) => markPointS_any (.slice b m d) base m (k + n) zs (by omega) hm u hu)
  have hap := own_kind h2 h1 (by decide)
  go_enter Tryz.func88, Tryz.ntmps88
  go_upto_region 1 with fail
  have R := hide (new_row w (.cells #[.slice a n c, .slice b m d] 33))
  have HB := hide (al1_below w (.cells #[.slice a n c, .slice b m d] 33))
  replace h1 := hide (own_below h1 (unhide HB))
  replace h2 := hide (own_below h2 (unhide HB))
  have hlt := hide (show ∀ q, (Value.slice a n c).ownBlock = some q → q ≠ w.heap.size from own_ty (unhide h1) (unhide R) (by decide))
  generalize w.alloc (.cells #[.slice a n c, .slice b m d] 33) = W at R HB h1 h2 ⊢
  obtain ⟨b1, hb1⟩ : ∃ b, Hid (b = w.heap.size) := ⟨_, rfl⟩
  rw [← unhide hb1] at R hlt ⊢
  obtain ⟨c0, c1⟩ := row2 (unhide R)
  go_wp2_with fail
  go_fit (unhide E1 _ _ (unhide h1))
  rintro r u1 ⟨rfl, _, hg⟩
  replace R := hide ((hg.block b1 (heap_lt (unhide R)) (fun e => unhide hlt b1 e.symm rfl)).trans (unhide R))
  replace h2 := hide ((unhide h2).kept hg (by
    cases hk : (Value.slice b m d).ownBlock with
    | none => exact .inl rfl
    | some q => exact .inr (fun e => hap q hk e.symm)))
  replace hg := hide hg
  clear c0 c1 h1
  obtain ⟨c0, c1⟩ := row2 (unhide R)
  go_wp2_with fail
  go_fit (unhide E2 _ _ (unhide h2))
  rintro r u2 ⟨rfl, _, hg2⟩
  replace hg2 := hide hg2
  clear c0 c1
  go_wp2_with fail
  go_ret
  exact ⟨rfl, W, unhide HB, u1, unhide hg, unhide hg2⟩
theorem FarB.more {b T : Nat} {w u v u2 u' : World} {k1 k2 : Option Nat} (h : FarB b T w u) (hb : Below u.heap.size u v) (g1 : v.grownBy u2 k1) (g2 : u2.grownBy u' k2) (h1 : ∀ q, k1 = some q → b ≤ q ∧ q < T) (h2 : ∀ q, k2 = some q → b ≤ q ∧ q < T) : FarB b T w u' :=
  (((h.grown (k := none) ⟨hb.os, hb.tape, hb.output, hb.size, fun q hq _ => hb.block q hq⟩ (fun q e => by cases e)).grown g1 h1).grown g2 h2)

set_option maxHeartbeats 4000000 in
set_option maxRecDepth 100000 in
theorem markNode_far (x : Nd) (s : Na) (hs : x.Small) (base T k : Nat) (hk : k ≤ 100000000) (w : World) (h : NdT w base T x s) :
    Calls Tryz.prog 34 #[.agg (ndC x s), .int .i64 k] w fun r w' => (∃ q : Nat, r = .returned (.int .i64 (q : Int))) ∧ FarB base T w w' := by
  have E1 := hide (fun u hk => markPath_far (.slice s.av x.nv s.cv) (.slice s.ap x.np s.cp) base x.nv x.np k hk hs.nv hs.np u)
  have E2 := hide (fun u zs hk (hu : u.ownsRow base 3 1 (.slice s.ad x.nd s.cd) x.nd zs) => markIntS_any (.slice s.ad x.nd s.cd) base x.nd (k + x.nv + x.np * 2) zs hk hs.nd u hu)
  have E3 := hide (fun u hk => markPath_far (.slice s.bv x.mv s.dv) (.slice s.bp x.mp s.dp) base x.mv x.mp (k + x.nv + x.np * 2 + x.nd) hk hs.mv hs.mp u)
  have b1 := hs.nv
  have b2 := hs.np
  have b3 := hs.nd
  have hO := hide h.1.own
  have hI := hide h.1.inj
  have hT := hide (show ∀ l, l < 5 → ∀ q, (lvl x s l).ownBlock = some q → base ≤ q ∧ q < T from fun l hl q e => ⟨((h.1.own l hl).lt q e).1, h.2 l hl q e⟩)
  have hW := hide (show ∀ l, l < 5 → ∀ q, (lvl x s l).ownBlock = some q → q ≠ w.heap.size from fun l hl q e => Nat.ne_of_lt ((h.1.own l hl).lt q e).2)
  have off := hide (show ∀ l m, l < 5 → m < 5 → l ≠ m → (lvl x s l).ownBlock = none ∨ (lvl x s l).ownBlock ≠ (lvl x s m).ownBlock from fun l m hl hm hne => by
    cases hk : (lvl x s l).ownBlock with
    | none => exact .inl rfl
    | some q => exact .inr (fun e => hne (h.1.inj l m hl hm q hk e.symm)))
  clear h hs
  go_enter Tryz.func34, Tryz.ntmps34
  go_upto_region 1 with fail
  have R := hide (new_row w (.cells (ndC x s) 41))
  have HB := hide (al1_below w (.cells (ndC x s) 41))
  replace hO := hide (fun l hl => (unhide hO l hl).next (unhide HB))
  have HF := hide (show FarB base T w (w.alloc (.cells (ndC x s) 41)) from (FarB.refl base T _).pre (unhide HB))
  generalize w.alloc (.cells (ndC x s) 41) = W at R HB hO HF ⊢
  obtain ⟨bb, hbb⟩ : ∃ b, Hid (b = w.heap.size) := ⟨_, rfl⟩
  rw [← unhide hbb] at R hW ⊢
  have F1 := hide (unhide E1 W (by omega) (let ⟨xs, h1, _⟩ := unhide hO 0 (by omega); ⟨xs, h1⟩) (let ⟨xs, h1, _⟩ := unhide hO 1 (by omega); ⟨xs, h1⟩))
  obtain ⟨c0, c1, c2, c3, c4, c5, c6, c7, c8, c9, c10, c11, c12, c13, c14, c15, c16, c17, c18, c19, c20, c21, c22, c23, c24, c25, c26, c27, c28, c29, c30⟩ := row31 (unhide R)
  go_wp2_with fail
  go_fit (unhide F1)
  rintro r u1 ⟨rfl, v1, hb, v2, g1, g2⟩
  clear c0 c1 c2 c3 c4 c5 c6 c7 c8 c9 c10 c11 c12 c13 c14 c15 c16 c17 c18 c19 c20 c21 c22 c23 c24 c25 c26 c27 c28 c29 c30 F1
  replace HF := hide ((unhide HF).more hb g1 g2 (unhide hT 0 (by omega)) (unhide hT 1 (by omega)))
  have hO2 := hide (show ∀ l, l < 5 → l ≠ 0 → l ≠ 1 → OwnL u1 base x s l from fun l hl n0 n1 => (((unhide hO l hl).next hb).kept g1 (unhide off l 0 hl (by omega) n0)).kept g2 (unhide off l 1 hl (by omega) n1))
  have R1 := hide ((g1.block bb (heap_lt (row_next hb (unhide R))) (fun e => unhide hW 0 (by omega) bb e.symm rfl)).trans (row_next hb (unhide R)))
  replace R := hide ((g2.block bb (heap_lt (unhide R1)) (fun e => unhide hW 1 (by omega) bb e.symm rfl)).trans (unhide R1))
  clear hO hb g1 g2 R1
  obtain ⟨xs2, o2, _⟩ := unhide hO2 2 (by omega) (by omega) (by omega)
  have F2 := hide (unhide E2 u1 xs2 (by omega) o2)
  obtain ⟨c0, c1, c2, c3, c4, c5, c6, c7, c8, c9, c10, c11, c12, c13, c14, c15, c16, c17, c18, c19, c20, c21, c22, c23, c24, c25, c26, c27, c28, c29, c30⟩ := row31 (unhide R)
  clear o2
  go_wp2_with fail
  go_fit (unhide F2)
  rintro r u2 ⟨rfl, _, g3⟩
  clear c0 c1 c2 c3 c4 c5 c6 c7 c8 c9 c10 c11 c12 c13 c14 c15 c16 c17 c18 c19 c20 c21 c22 c23 c24 c25 c26 c27 c28 c29 c30 F2
  replace HF := hide ((unhide HF).grown g3 (unhide hT 2 (by omega)))
  have hO3 := hide (show ∀ l, l < 5 → l ≠ 0 → l ≠ 1 → l ≠ 2 → OwnL u2 base x s l from fun l hl n0 n1 n2 => (unhide hO2 l hl n0 n1).kept g3 (unhide off l 2 hl (by omega) n2))
  replace R := hide ((g3.block bb (heap_lt (unhide R)) (fun e => unhide hW 2 (by omega) bb e.symm rfl)).trans (unhide R))
  clear hO2 g3
  have F3 := hide (unhide E3 u2 (by omega) (let ⟨xs, h1, _⟩ := unhide hO3 3 (by omega) (by omega) (by omega) (by omega); ⟨xs, h1⟩) (let ⟨xs, h1, _⟩ := unhide hO3 4 (by omega) (by omega) (by omega) (by omega); ⟨xs, h1⟩))
  obtain ⟨c0, c1, c2, c3, c4, c5, c6, c7, c8, c9, c10, c11, c12, c13, c14, c15, c16, c17, c18, c19, c20, c21, c22, c23, c24, c25, c26, c27, c28, c29, c30⟩ := row31 (unhide R)
  go_wp2_with fail
  go_fit (unhide F3)
  rintro r u3 ⟨rfl, v1, hb, v2, g1, g2⟩
  replace HF := hide ((unhide HF).more hb g1 g2 (unhide hT 3 (by omega)) (unhide hT 4 (by omega)))
  clear c0 c1 c2 c3 c4 c5 c6 c7 c8 c9 c10 c11 c12 c13 c14 c15 c16 c17 c18 c19 c20 c21 c22 c23 c24 c25 c26 c27 c28 c29 c30 F3 hb g1 g2
  go_wp2_with fail
  go_ret
  exact ⟨⟨_, rfl⟩, unhide HF⟩
end Go.Proofs.YtmafopckplpajaaGreatDoor

/-
  Changed scenes are not too great for the laws' words.
-/
namespace Go.Proofs.YtmafopckplpajaaGreatDoor
open Go.RowKit
set_option linter.unusedVariables false

theorem node_fit {x : Nd} (h : nodeOkB x = true) : x.Small ∧ x.tot ≤ 200 := by
  unfold nodeOkB at h
  simp only [Bool.and_eq_true] at h
  obtain ⟨_, _, _, _, h5, h6, _, h8, _⟩ := h
  have r1 := rightB_iff.1 h5
  have r2 := rightB_iff.1 h6
  have r3 := dashOk_iff.1 h8
  have := r1.nv24; have := r1.np24; have := r2.nv24; have := r2.np24; have := r3.2.1
  exact ⟨⟨by omega, by omega, by omega, by omega, by omega⟩, by unfold Nd.tot; omega⟩
theorem sumT_fit {X : Nat → Nd} : ∀ {n : Nat}, (∀ i, i < n → (X i).tot ≤ 200) → sumT X n ≤ n * 200
  | 0, _ => Nat.le_refl _
  | n + 1, h => by
    have h1 := sumT_fit (n := n) (fun i hi => h i (by omega))
    have h2 := h n (by omega)
    show sumT X n + (X n).tot ≤ (n + 1) * 200
    omega
theorem create_ok {X : Nat → Nd} {n : Nat} {x : Nd} (h : createC X n x = 0) : ScOk X n ∧ nodeOkB x = true ∧ firstN X x.id n < 0 ∧ holdB X n x.par = true ∧ n ≠ 8 ∧ depthI X n x.par < 4 := by
  unfold createC at h
  split at h
  · cases h
  · next h1 =>
    have h1' := Classical.not_not.1 h1
    split at h
    · cases h
    · next h2 =>
      split at h
      · cases h
      · next h3 =>
        split at h
        · cases h
        · next h4 =>
          split at h
          · cases h
          · next h5 => exact ⟨sceneOk_iff.1 h1'.1, h1'.2, by omega, by simpa using h3, h4, by omega⟩
theorem few_fit {Y : Nat → Nd} {m : Nat} (hm : m ≤ 9) (h : ∀ i, i < m → nodeOkB (Y i) = true) : m ≤ 1048576 ∧ (∀ i, i < m → (Y i).Small) ∧ scT Y m ≤ 1048576 := by
  refine ⟨by omega, fun i hi => (node_fit (h i hi)).1, ?_⟩
  have := sumT_fit (X := Y) (n := m) (fun i hi => (node_fit (h i hi)).2)
  unfold scT
  omega
theorem create_fits (X : Nat → Nd) (n : Nat) (x : Nd) (hn : n ≤ 1048576) (ht : scT X n ≤ 1048576) (hs : ∀ i, i < n → (X i).Small) (hx : x.Small) : createN X n x ≤ 1048576 ∧ (∀ i, i < createN X n x → (createX X n x i).Small) ∧ scT (createX X n x) (createN X n x) ≤ 1048576 := by
  by_cases h : createC X n x = 0
  · rw [show createN X n x = n + 1 from if_pos h, show createX X n x = upd X n x from if_pos h]
    obtain ⟨h1, h2, _⟩ := create_ok h
    refine few_fit (by have := h1.1; omega) (fun i hi => ?_)
    by_cases e : i = n
    · subst e; rw [upd_at]; exact h2
    · rw [upd_ne _ _ e]; exact (okAt_iff.1 (h1.2 i (by omega))).1
  · rw [show createN X n x = n from if_neg h, show createX X n x = X from if_neg h]
    exact ⟨hn, hs, ht⟩
end Go.Proofs.YtmafopckplpajaaGreatDoor

/-
  Nodes of a scene of one's own that are written anew.
-/
namespace Go.Proofs.YtmafopckplpajaaGreatDoor
open Go.RowKit
set_option linter.unusedVariables false

def Nd.withPar (x : Nd) (q : Int) : Nd := { x with par := q }
theorem lvl_par (x : Nd) (q : Int) (s : Na) (l : Nat) : lvl (x.withPar q) s l = lvl x s l := by
  rcases l with _ | _ | _ | _ | l <;> rfl
theorem lnl_par (x : Nd) (q : Int) (l : Nat) : lnl (x.withPar q) l = lnl x l := by
  rcases l with _ | _ | _ | _ | l <;> rfl
theorem lct_par (x : Nd) (q : Int) (l : Nat) (xs : List Value) : lct (x.withPar q) l xs = lct x l xs := by
  rcases l with _ | _ | _ | _ | l <;> rfl
theorem OwnL.withPar {w : World} {base : Nat} {x : Nd} {s : Na} {l : Nat} (h : OwnL w base x s l) (q : Int) : OwnL w base (x.withPar q) s l := by
  obtain ⟨xs, h1, h2⟩ := h
  refine ⟨xs, ?_, ?_⟩
  · rw [lvl_par, lnl_par]; exact h1
  · rw [lct_par]; exact h2
theorem NdG.withPar {w : World} {base : Nat} {x : Nd} {s : Na} (h : NdG w base x s) (q : Int) : NdG w base (x.withPar q) s :=
  ⟨fun l hl => (h.own l hl).withPar q, fun l m hl hm k e1 e2 => h.inj l m hl hm k (by rw [lvl_par] at e1; exact e1) (by rw [lvl_par] at e2; exact e2)⟩
theorem ndC_par (x : Nd) (s : Na) (q : Int) : (ndC x s).setIfInBounds 1 (.int .i64 q) = ndC (x.withPar q) s := by unfold ndC Nd.withPar; simp only [List.setIfInBounds_toArray, List.set_cons_zero, List.set_cons_succ]
/-- Node k of a scene is another one. -/
theorem SG.put {u : World} {base T g n c k B : Nat} {X : Nat → Nd} {A : Nat → Na} {x : Nd} {s : Na} (h : SG u base T (some ⟨g, 0, none⟩) n c X A) (hk : k < n) (hB : base ≤ B) (hT : T ≤ B) (hx : NdG u B x s) :
    SG (u.setCells g (k * 31) (ndC x s).toList) base (u.setCells g (k * 31) (ndC x s).toList).heap.size (some ⟨g, 0, none⟩) n c (upd X k x) (upd A k s) := by
  obtain ⟨ys, h1, h2⟩ := h.row
  have hg := sets_grown g (ndC x s).toList u (k * 31)
  have own : ∀ j, j < n → ∀ l, l < 5 → OwnL (u.setCells g (k * 31) (ndC x s).toList) base (upd X k x j) (upd A k s j) l := fun j hj l hl => by
    by_cases e : j = k
    · subst e; rw [upd_at, upd_at]; exact ((hx.own l hl).low hB).kept hg ((hx.own l hl).off h1)
    · rw [upd_ne _ _ e, upd_ne _ _ e]; exact (h.own j hj l hl).kept hg ((h.own j hj l hl).off h1)
  have row := own_setMany (ndC x s).toList (o := k * 31) h1
  refine ⟨⟨_, row, h2.put hk h1.1 x s⟩, own, fun i j hi hj l m hl hm q e1 e2 => ?_, fun j hj l hl q e => ⟨((own j hj l hl).lt q e).2, (own j hj l hl).row row q e⟩, fun q e => (row.lt q e).2⟩
  by_cases ei : i = k <;> by_cases ej : j = k
  · subst ei; subst ej
    simp only [upd_at] at e1 e2
    exact ⟨rfl, hx.inj l m hl hm q e1 e2⟩
  · subst ei
    simp only [upd_at, upd_ne _ _ ej] at e1 e2
    have := ((hx.own l hl).lt q e1).1
    have := (h.apt.blk j hj m hm q e2).1
    omega
  · subst ej
    simp only [upd_at, upd_ne _ _ ei] at e1 e2
    have := ((hx.own m hm).lt q e2).1
    have := (h.apt.blk i hi l hl q e1).1
    omega
  · simp only [upd_ne _ _ ei, upd_ne _ _ ej] at e1 e2
    exact h.apt.inj i j hi hj l m hl hm q e1 e2
/-- Node k of a scene has another Parent. -/
theorem SG.putPar {u : World} {base T g n c k : Nat} {X : Nat → Nd} {A : Nat → Na} (h : SG u base T (some ⟨g, 0, none⟩) n c X A) (hk : k < n) (q : Int) : SG (u.setCell ⟨g, k * 31 + 1, none⟩ (.int .i64 q)) base T (some ⟨g, 0, none⟩) n c (upd X k ((X k).withPar q)) A := by
  obtain ⟨ys, h1, h2⟩ := h.row
  have hg := setc_grown u g (k * 31 + 1) (.int .i64 q)
  have hl0 := h1.1
  refine ⟨⟨_, (h1.stored (k * 31 + 1) _).1, fun j hj m v hv => ?_⟩, fun j hj l hl => ?_, fun i j hi hj l m hl hm r e1 e2 => ?_, fun j hj l hl r e => ?_, h.apt.row⟩
  · have hm : m < 31 := by have := (Array.getElem?_eq_some_iff.1 hv).1; rwa [ndC_size] at this
    by_cases e : j = k
    · subst e
      rw [upd_at, ← ndC_par] at hv
      by_cases em : m = 1
      · subst em
        rw [List.getElem?_set_self (by omega)]
        rw [Array.getElem?_setIfInBounds_self_of_lt (by rw [ndC_size]; omega)] at hv
        exact hv
      · rw [List.getElem?_set_ne (by omega)]
        rw [Array.getElem?_setIfInBounds_ne (by omega)] at hv
        exact h2 j hj m v hv
    · rw [upd_ne _ _ e] at hv
      rw [List.getElem?_set_ne (by omega)]
      exact h2 j hj m v hv
  · have o := (h.own j hj l hl).kept hg ((h.own j hj l hl).off h1)
    by_cases e : j = k
    · subst e; rw [upd_at]; exact o.withPar q
    · rw [upd_ne _ _ e]; exact o
  · have f : ∀ t l, lvl (upd X k ((X k).withPar q) t) (A t) l = lvl (X t) (A t) l := fun t l => by
      by_cases e : t = k
      · subst e; rw [upd_at, lvl_par]
      · rw [upd_ne _ _ e]
    simp only [f] at e1 e2
    exact h.apt.inj i j hi hj l m hl hm r e1 e2
  · have f : ∀ t l, lvl (upd X k ((X k).withPar q) t) (A t) l = lvl (X t) (A t) l := fun t l => by
      by_cases e : t = k
      · subst e; rw [upd_at, lvl_par]
      · rw [upd_ne _ _ e]
    simp only [f] at e
    exact h.apt.blk j hj l hl r e
noncomputable def setX (X : Nat → Nd) (n : Nat) (x : Nd) : Nat → Nd := if setC16 X n x = 0 then upd X (firstN X x.id n).toNat (x.withPar (X (firstN X x.id n).toNat).par) else X
theorem upd_twice {α : Type} (f : Nat → α) (k : Nat) (v v' : α) : upd (upd f k v) k v' = upd f k v' := by
  funext j
  by_cases e : j = k
  · subst e; rw [upd_at, upd_at]
  · rw [upd_ne _ _ e, upd_ne _ _ e, upd_ne _ _ e]
theorem set_ok {X : Nat → Nd} {n : Nat} {x : Nd} (h : setC16 X n x = 0) : ScOk X n ∧ nodeOkB x = true ∧ ¬ firstN X x.id n < 0 ∧ ¬ (x.gr = false ∧ 0 < (kidsL X n x.id).length) := by
  unfold setC16 at h
  split at h
  · cases h
  · next h1 =>
    have h1' := Classical.not_not.1 h1
    split at h
    · cases h
    · next h2 =>
      split at h
      · cases h
      · next h3 => exact ⟨sceneOk_iff.1 h1'.1, h1'.2, h2, h3⟩
theorem par_fit (x : Nd) (q : Int) (h : x.Small) : (x.withPar q).Small := ⟨h.nv, h.np, h.nd, h.mv, h.mp⟩
theorem set_fits (X : Nat → Nd) (n : Nat) (x : Nd) (hn : n ≤ 1048576) (ht : scT X n ≤ 1048576) (hs : ∀ i, i < n → (X i).Small) (hx : x.Small) : n ≤ 1048576 ∧ (∀ i, i < n → (setX X n x i).Small) ∧ scT (setX X n x) n ≤ 1048576 := by
  by_cases h : setC16 X n x = 0
  · rw [show setX X n x = upd X (firstN X x.id n).toNat (x.withPar (X (firstN X x.id n).toNat).par) from if_pos h]
    obtain ⟨h1, h2, _⟩ := set_ok h
    have hx2 := node_fit h2
    have hb : ∀ i, i < n → (upd X (firstN X x.id n).toNat (x.withPar (X (firstN X x.id n).toNat).par) i).Small ∧ (upd X (firstN X x.id n).toNat (x.withPar (X (firstN X x.id n).toNat).par) i).tot ≤ 200 := fun i hi => by
      by_cases e : i = (firstN X x.id n).toNat
      · rw [e, upd_at]; exact ⟨par_fit _ _ hx2.1, hx2.2⟩
      · rw [upd_ne _ _ e]; exact node_fit (okAt_iff.1 (h1.2 i hi)).1
    refine ⟨hn, fun i hi => (hb i hi).1, ?_⟩
    have := sumT_fit (fun i hi => (hb i hi).2)
    have := h1.1
    unfold scT
    omega
  · rw [show setX X n x = X from if_neg h]
    exact ⟨hn, hs, ht⟩
end Go.Proofs.YtmafopckplpajaaGreatDoor

/-
  Nodes that are dropped: what both sides reckon.
-/
namespace Go.Proofs.YtmafopckplpajaaGreatDoor
open Go.RowKit
set_option linter.unusedVariables false

/-- The places that are kept of the first k. -/
def keepI (q : Nat → Bool) : Nat → List Nat
  | 0 => []
  | k + 1 => if q k = true then keepI q k else keepI q k ++ [k]
theorem keep_le (q : Nat → Bool) : ∀ k, (keepI q k).length ≤ k
  | 0 => Nat.le_refl _
  | k + 1 => by
    have := keep_le q k
    unfold keepI
    split
    · omega
    · simp; omega
theorem keep_lt (q : Nat → Bool) : ∀ k i, i ∈ keepI q k → i < k ∧ q i = false
  | 0, i, h => by cases h
  | k + 1, i, h => by
    unfold keepI at h
    split at h
    · have := keep_lt q k i h; exact ⟨by omega, this.2⟩
    · next hq =>
      rcases List.mem_append.1 h with h | h
      · have := keep_lt q k i h; exact ⟨by omega, this.2⟩
      · obtain rfl := List.mem_singleton.1 h
        exact ⟨by omega, by simpa using hq⟩
theorem keep_nodup (q : Nat → Bool) : ∀ k, (keepI q k).Nodup
  | 0 => List.nodup_nil
  | k + 1 => by
    unfold keepI
    split
    · exact keep_nodup q k
    · refine List.nodup_append.2 ⟨keep_nodup q k, by simp, fun a ha b hb => ?_⟩
      have e := List.mem_singleton.1 hb
      have := (keep_lt q k a ha).1
      omega
theorem keep_yes {q : Nat → Bool} {k : Nat} (h : q k = true) : keepI q (k + 1) = keepI q k := if_pos h
theorem keep_no {q : Nat → Bool} {k : Nat} (h : q k = false) : keepI q (k + 1) = keepI q k ++ [k] := if_neg (by rw [h]; decide)
/-- The things at these places. -/
def pickF {α : Type} (f : Nat → α) (L : List Nat) : Nat → α := fun j => f (L.getD j 0)
theorem pickF_at {α : Type} (f : Nat → α) (L : List Nat) {j : Nat} (h : j < L.length) : pickF f L j = f L[j] := by
  unfold pickF; simp [List.getD, List.getElem?_eq_getElem h]
theorem pickF_snoc {α : Type} (f : Nat → α) (L : List Nat) (k : Nat) {j : Nat} (h : j < L.length + 1) : upd (pickF f L) L.length (f k) j = pickF f (L ++ [k]) j := by
  by_cases e : j = L.length
  · subst e
    rw [upd_at, pickF_at f (L ++ [k]) (by simp)]
    simp
  · rw [upd_ne _ _ e, pickF_at f L (by omega), pickF_at f (L ++ [k]) (by simp; omega), List.getElem_append_left (by omega)]
theorem SG.congr {w : World} {base T n c : Nat} {a : Option Addr} {X X' : Nat → Nd} {A A' : Nat → Na} (h : SG w base T a n c X A) (hX : ∀ j, j < n → X j = X' j) (hA : ∀ j, j < n → A j = A' j) : SG w base T a n c X' A' := by
  obtain ⟨ys, h1, h2⟩ := h.row
  refine ⟨⟨ys, h1, fun j hj m v hv => h2 j hj m v (by rw [hX j hj, hA j hj]; exact hv)⟩, fun j hj l hl => by rw [← hX j hj, ← hA j hj]; exact h.own j hj l hl, fun i j hi hj l m hl hm k e1 e2 => ?_, fun j hj l hl k e => ?_, h.apt.row⟩
  · rw [← hX i hi, ← hA i hi] at e1
    rw [← hX j hj, ← hA j hj] at e2
    exact h.apt.inj i j hi hj l m hl hm k e1 e2
  · rw [← hX j hj, ← hA j hj] at e
    exact h.apt.blk j hj l hl k e
/-- What is dropped with a node. -/
def dropQ (X : Nat → Nd) (n : Nat) (id : Int) (k : Nat) : Bool := underB X n (X k).id id
noncomputable def dropN (X : Nat → Nd) (n : Nat) (id : Int) : Nat := if changeC X n id = 0 then (keepI (dropQ X n id) n).length else n
noncomputable def dropX (X : Nat → Nd) (n : Nat) (id : Int) : Nat → Nd := if changeC X n id = 0 then pickF X (keepI (dropQ X n id) n) else X
theorem drop_no {X : Nat → Nd} {n : Nat} {id : Int} {c : Int} (h : changeC X n id = c) (hc : c ≠ 0) : changeC X n id = c ∧ dropN X n id = n ∧ dropX X n id = X := ⟨h, if_neg (by rw [h]; exact hc), if_neg (by rw [h]; exact hc)⟩
theorem drop_yes {X : Nat → Nd} {n : Nat} {id : Int} (h : changeC X n id = 0) : changeC X n id = 0 ∧ dropN X n id = (keepI (dropQ X n id) n).length ∧ dropX X n id = pickF X (keepI (dropQ X n id) n) := ⟨h, if_pos h, if_pos h⟩
theorem change_ok {X : Nat → Nd} {n : Nat} {id : Int} (h : changeC X n id = 0) : ScOk X n ∧ ¬ firstN X id n < 0 := by
  unfold changeC at h
  split at h
  · cases h
  · next h1 =>
    split at h
    · cases h
    · next h2 => exact ⟨sceneOk_iff.1 (Classical.not_not.1 h1), h2⟩
theorem drop_fits (X : Nat → Nd) (n : Nat) (id : Int) (hn : n ≤ 1048576) (ht : scT X n ≤ 1048576) (hs : ∀ i, i < n → (X i).Small) : dropN X n id ≤ 1048576 ∧ (∀ i, i < dropN X n id → (dropX X n id i).Small) ∧ scT (dropX X n id) (dropN X n id) ≤ 1048576 := by
  by_cases h : changeC X n id = 0
  · rw [(drop_yes h).2.1, (drop_yes h).2.2]
    obtain ⟨h1, _⟩ := change_ok h
    refine few_fit (by have := h1.1; have := keep_le (dropQ X n id) n; omega) (fun i hi => ?_)
    rw [pickF_at X _ hi]
    exact (okAt_iff.1 (h1.2 _ (keep_lt _ n _ (List.getElem_mem hi)).1)).1
  · rw [show dropN X n id = n from if_neg h, show dropX X n id = X from if_neg h]
    exact ⟨hn, hs, ht⟩
theorem under_in {X : Nat → Nd} {n : Nat} {id : Int} (hf : ¬ firstN X id n < 0) {k : Nat} (hk : k < n) : (X k).id ∈ underL X n id ↔ dropQ X n id k = true := by
  unfold underL
  rw [if_neg hf, pick_mem]
  constructor
  · rintro ⟨j, _, h1, h2⟩
    unfold dropQ
    rw [← h2]
    exact h1
  · intro h
    exact ⟨k, hk, h, rfl⟩
end Go.Proofs.YtmafopckplpajaaGreatDoor

/-
  Scenes that grow by a node, or whose first node goes to the end: they stay right.
-/
namespace Go.Proofs.YtmafopckplpajaaGreatDoor
set_option linter.unusedVariables false

/-- Two scenes that agree at all Ids of S, which has the parents of its nodes: depths are the same. -/
theorem depth_congr {X Y : Nat → Nd} {n m : Nat} {S : Int → Prop}
    (h : ∀ id, S id → id ≠ 0 → (firstN X id n < 0 ↔ firstN Y id m < 0) ∧ (¬ firstN X id n < 0 → (X (firstN X id n).toNat).par = (Y (firstN Y id m).toNat).par ∧ S (X (firstN X id n).toNat).par)) :
    ∀ (f : Nat) (c id : Int), S id → depthN X n f c id = depthN Y m f c id
  | 0, _, _, _ => rfl
  | f + 1, c, id, hs => by
    rw [depthN_succ, depthN_succ]
    by_cases h0 : id = 0
    · rw [if_pos h0, if_pos h0]
    · rw [if_neg h0, if_neg h0]
      obtain ⟨h1, h2⟩ := h id hs h0
      by_cases h3 : firstN X id n < 0
      · rw [if_pos h3, if_pos (h1.1 h3)]
      · rw [if_neg h3, if_neg (fun e => h3 (h1.2 e)), ← (h2 h3).1]
        exact depth_congr h f (c + 1) _ (h2 h3).2
theorem first_lt {X : Nat → Nd} {id : Int} {n : Nat} (h : ¬ firstN X id n < 0) : ∃ k, k < n ∧ firstN X id n = (k : Int) ∧ (X k).id = id := by
  rcases first_is (X := X) (id := id) n with ⟨e, _⟩ | ⟨k, hk, e, e1, _⟩
  · omega
  · exact ⟨k, hk, e, e1⟩
/-- Where the Ids differ, the first is the only one. -/
theorem first_only {X : Nat → Nd} {n k : Nat} (hu : ∀ i j, i < n → j < n → (X i).id = (X j).id → i = j) (hk : k < n) : firstN X (X k).id n = (k : Int) := by
  refine first_at (fun j hj e => ?_) rfl hk
  have := hu j k (by omega) hk e
  omega
theorem first_mem {X : Nat → Nd} {n : Nat} {id : Int} : ¬ firstN X id n < 0 ↔ ∃ k, k < n ∧ (X k).id = id := by
  constructor
  · intro h; obtain ⟨k, h1, _, h3⟩ := first_lt h; exact ⟨k, h1, h3⟩
  · rintro ⟨k, hk, e⟩ hlt
    rcases first_is (X := X) (id := id) n with ⟨_, h⟩ | ⟨j, _, e1, _, _⟩
    · exact h k hk e
    · omega
theorem ScOk.uniq {X : Nat → Nd} {n : Nat} (h : ScOk X n) : ∀ i j, i < n → j < n → (X i).id = (X j).id → i = j := fun i j hi hj e => by
  have a := (okAt_iff.1 (h.2 i hi)).2.1
  have b := (okAt_iff.1 (h.2 j hj)).2.1
  rw [e, b] at a
  omega
theorem par_in {X : Nat → Nd} {n i : Nat} (h : ScOk X n) (hi : i < n) : (X i).par = 0 ∨ ∃ k, k < n ∧ (X k).id = (X i).par ∧ (X k).gr = true := by
  obtain ⟨_, _, _, h4⟩ := okAt_iff.1 (h.2 i hi)
  rcases h4 with h4 | ⟨h4, h5⟩
  · exact .inl h4
  · obtain ⟨k, hk, e, e1⟩ := first_lt (X := X) (n := n) (id := (X i).par) (by omega)
    rw [e] at h5
    exact .inr ⟨k, hk, e1, h5⟩
/-- A depth d is found within d + 1 - c steps. -/
theorem depth_fuel {X : Nat → Nd} {n : Nat} : ∀ {f : Nat} {c id : Int}, 0 ≤ c → 0 < depthN X n f c id → ∀ g : Nat, depthN X n f c id - c < (g : Int) → depthN X n g c id = depthN X n f c id
  | 0, c, id, _, h, _, _ => absurd h (by show ¬ (0 : Int) < 0; omega)
  | f + 1, c, id, hc, h, g, hg => by
    rw [depthN_succ] at h hg ⊢
    by_cases h0 : id = 0
    · rw [if_pos h0] at h hg ⊢
      obtain ⟨q, rfl⟩ : ∃ q, g = q + 1 := ⟨g - 1, by omega⟩
      rw [depthN_succ, if_pos h0]
    · rw [if_neg h0] at h hg ⊢
      by_cases h1 : firstN X id n < 0
      · rw [if_pos h1] at h; omega
      · rw [if_neg h1] at h hg ⊢
        have hle := (depth_more (X := X) (n := n) (f := f) (c := c + 1) (id := (X (firstN X id n).toNat).par) (by omega) (by omega)).1
        obtain ⟨q, rfl⟩ : ∃ q, g = q + 1 := ⟨g - 1, by omega⟩
        rw [depthN_succ, if_neg h0, if_neg h1]
        exact depth_fuel (by omega) h q (by omega)
theorem depth_short {X : Nat → Nd} {n k : Nat} (hS : ScOk X n) (hn : n ≤ 8) (hk : k < n) : depthN X n 8 (0 + 1) (X k).id = depthI X n (X k).id + 1 := by
  obtain ⟨g1, g2, ⟨g3, g4⟩, _⟩ := okAt_iff.1 (hS.2 k hk)
  unfold depthI at g3 g4 ⊢
  have e := depth_fuel (X := X) (n := n) (f := 9) (c := 0) (id := (X k).id) (by omega) (by omega) 8 (by omega)
  have hid := (node_ids g1).1
  have e1 : depthN X n 8 0 (X k).id = depthN X n 7 (0 + 1) (X k).par := by
    rw [depthN_succ, if_neg (by omega), g2, if_neg (by omega)]
    rfl
  have h7 : depthN X n 7 (0 + 1) (X k).par ≠ 0 := by rw [← e1, e]; omega
  have e2 : depthN X n 8 (0 + 1) (X k).id = depthN X n 7 (0 + 1 + 1) (X k).par := by
    rw [depthN_succ, if_neg (by omega), g2, if_neg (by omega)]
    rfl
  rw [e2, (depth_more (by omega) h7).2 7 (0 + 1 + 1) (Nat.le_refl _), ← e1, e]
  omega
/-- One node more at the end. -/
theorem scOk_snoc {X Y : Nat → Nd} {n : Nat} (hS : ScOk X n) (hn : n < 8) (hY : ∀ i, i < n → Y i = X i) (hx : nodeOkB (Y n) = true) (hid : ∀ i, i < n → (X i).id ≠ (Y n).id)
    (hp : (Y n).par = 0 ∨ ∃ k, k < n ∧ (X k).id = (Y n).par ∧ (X k).gr = true ∧ depthI X n (X k).id < 4) : ScOk Y (n + 1) := by
  have hu : ∀ i j, i < n + 1 → j < n + 1 → (Y i).id = (Y j).id → i = j := by
    intro i j hi hj e
    by_cases hi2 : i = n
    · by_cases hj2 : j = n
      · omega
      · rw [hi2, hY j (by omega)] at e; exact absurd e.symm (hid j (by omega))
    · by_cases hj2 : j = n
      · rw [hj2, hY i (by omega)] at e; exact absurd e (hid i (by omega))
      · rw [hY i (by omega), hY j (by omega)] at e; exact hS.uniq i j (by omega) (by omega) e
  have hold : ∀ (f : Nat) (c id : Int), (id = 0 ∨ ∃ k, k < n ∧ (X k).id = id) → depthN X n f c id = depthN Y (n + 1) f c id := by
    refine depth_congr (S := fun id => id = 0 ∨ ∃ k, k < n ∧ (X k).id = id) ?_
    intro id hs h0
    rcases hs with hs | ⟨k, hk, rfl⟩
    · exact absurd hs h0
    · have e1 := first_only hS.uniq hk
      have e2 : firstN Y (X k).id (n + 1) = (k : Int) := by rw [← hY k hk]; exact first_only hu (by omega)
      rw [e1, e2]
      refine ⟨Iff.rfl, fun _ => ?_⟩
      show (X k).par = (Y k).par ∧ _
      rw [hY k hk]
      refine ⟨rfl, ?_⟩
      rcases par_in hS hk with h | ⟨q, hq, e, _⟩
      · exact .inl h
      · exact .inr ⟨q, hq, e⟩
  have hid9 := (node_ids hx).1
  refine ⟨by omega, fun i hi => okAt_iff.2 ?_⟩
  by_cases hin : i = n
  · subst hin
    refine ⟨hx, first_only hu (by omega), ?_, ?_⟩
    · have e : depthI Y (i + 1) (Y i).id = depthN Y (i + 1) 8 (0 + 1) (Y i).par := by
        unfold depthI
        rw [depthN_succ, if_neg (by omega), first_only hu (by omega), if_neg (by omega)]
        rfl
      rw [e]
      rcases hp with hp | ⟨k, hk, e1, _, e3⟩
      · rw [hp]
        exact ⟨by show 1 ≤ (0 : Int) + 1; omega, by show (0 : Int) + 1 ≤ 4; omega⟩
      · have h9 := (okAt_iff.1 (hS.2 k hk)).2.2.1
        have e4 : depthN Y (i + 1) 9 0 (Y i).par = depthI X i (X k).id := by
          rw [← e1]
          exact (hold 9 0 (X k).id (.inr ⟨k, hk, rfl⟩)).symm
        -- the parent stands within eight steps, too: its depth is less than four
        have e5 : depthN X i 8 (0 + 1) (X k).id = depthI X i (X k).id + 1 := by
          exact depth_short hS (by omega) hk
        have e6 : depthN Y (i + 1) 8 (0 + 1) (Y i).par = depthN X i 8 (0 + 1) (X k).id := by
          rw [← e1]
          exact (hold 8 (0 + 1) (X k).id (.inr ⟨k, hk, rfl⟩)).symm
        rw [e6, e5]
        omega
    · rcases hp with hp | ⟨k, hk, e1, e2, _⟩
      · exact .inl hp
      · right
        have e4 : firstN Y (Y i).par (i + 1) = (k : Int) := by rw [← e1, ← hY k hk]; exact first_only hu (by omega)
        rw [e4]
        exact ⟨by omega, by show (Y k).gr = true; rw [hY k hk]; exact e2⟩
  · have hi2 : i < n := by omega
    obtain ⟨g1, g2, g3, g4⟩ := okAt_iff.1 (hS.2 i hi2)
    rw [hY i hi2]
    refine ⟨g1, by rw [← hY i hi2]; exact first_only hu hi, ?_, ?_⟩
    · have : depthI Y (n + 1) (X i).id = depthI X n (X i).id := (hold 9 0 (X i).id (.inr ⟨i, hi2, rfl⟩)).symm
      rw [this]; exact g3
    · rcases par_in hS hi2 with h | ⟨q, hq, e, eg⟩
      · exact .inl h
      · right
        have e4 : firstN Y (X i).par (n + 1) = (q : Int) := by rw [← e, ← hY q hq]; exact first_only hu (by omega)
        rw [e4]
        exact ⟨by omega, by show (Y q).gr = true; rw [hY q hq]; exact eg⟩
/-- The same nodes in another order. -/
theorem scOk_perm {X Y : Nat → Nd} {n : Nat} (hS : ScOk X n) (σ τ : Nat → Nat) (hσ : ∀ i, i < n → σ i < n ∧ τ (σ i) = i ∧ Y i = X (σ i)) (hτ : ∀ j, j < n → τ j < n ∧ σ (τ j) = j) : ScOk Y n := by
  have hY : ∀ j, j < n → Y (τ j) = X j := fun j hj => by rw [(hσ _ (hτ j hj).1).2.2, (hτ j hj).2]
  have hu : ∀ i j, i < n → j < n → (Y i).id = (Y j).id → i = j := by
    intro i j hi hj e
    rw [(hσ i hi).2.2, (hσ j hj).2.2] at e
    have := hS.uniq _ _ (hσ i hi).1 (hσ j hj).1 e
    rw [← (hσ i hi).2.1, ← (hσ j hj).2.1, this]
  have hf : ∀ k, k < n → firstN Y (X k).id n = (τ k : Int) := fun k hk => by rw [← hY k hk]; exact first_only hu (hτ k hk).1
  have hold : ∀ (f : Nat) (c id : Int), (id = 0 ∨ ∃ k, k < n ∧ (X k).id = id) → depthN X n f c id = depthN Y n f c id := by
    refine depth_congr (S := fun id => id = 0 ∨ ∃ k, k < n ∧ (X k).id = id) ?_
    intro id hs h0
    rcases hs with hs | ⟨k, hk, rfl⟩
    · exact absurd hs h0
    · rw [first_only hS.uniq hk, hf k hk]
      refine ⟨by omega, fun _ => ?_⟩
      show (X k).par = (Y (τ k)).par ∧ _
      rw [hY k hk]
      refine ⟨rfl, ?_⟩
      rcases par_in hS hk with h | ⟨q, hq, e, _⟩
      · exact .inl h
      · exact .inr ⟨q, hq, e⟩
  refine ⟨hS.1, fun i hi => okAt_iff.2 ?_⟩
  obtain ⟨h1, _, h3⟩ := hσ i hi
  obtain ⟨g1, g2, g3, g4⟩ := okAt_iff.1 (hS.2 (σ i) h1)
  refine ⟨by rw [h3]; exact g1, first_only hu hi, ?_, ?_⟩
  · have : depthI Y n (X (σ i)).id = depthI X n (X (σ i)).id := (hold 9 0 _ (.inr ⟨σ i, h1, rfl⟩)).symm
    rw [h3, this]; exact g3
  · rw [h3]
    rcases par_in hS h1 with h | ⟨q, hq, e, eg⟩
    · exact .inl h
    · right
      rw [← e, hf q hq]
      exact ⟨by omega, by show (Y (τ q)).gr = true; rw [hY q hq]; exact eg⟩
theorem scOk_nil (X : Nat → Nd) : ScOk X 0 := ⟨by omega, fun i hi => absurd hi (by omega)⟩
end Go.Proofs.YtmafopckplpajaaGreatDoor

/-
  Right scenes by a rank of their nodes; set and dropped scenes stay right.
-/
namespace Go.Proofs.YtmafopckplpajaaGreatDoor
open Go.RowKit
set_option linter.unusedVariables false

/-- Each node's rank is one more than its parent's. -/
structure Ranked (X : Nat → Nd) (n : Nat) (d : Int → Int) : Prop where
  few : n ≤ 8
  ok : ∀ i, i < n → nodeOkB (X i) = true
  uniq : ∀ i j, i < n → j < n → (X i).id = (X j).id → i = j
  step : ∀ i, i < n → ((X i).par = 0 ∧ d (X i).id = 1) ∨ (∃ k, k < n ∧ (X k).id = (X i).par ∧ (X k).gr = true ∧ d (X i).id = d (X i).par + 1)
theorem Ranked.depth {X : Nat → Nd} {n : Nat} {d : Int → Int} (h : Ranked X n d) (hd : ∀ i, i < n → 1 ≤ d (X i).id) : ∀ (f : Nat) (i : Nat) (c : Int), i < n → d (X i).id < (f : Int) → depthN X n f c (X i).id = c + d (X i).id := by
  intro f
  induction f with
  | zero => intro i c hi h2; have := hd i hi; omega
  | succ f ih =>
    intro i c hi h2
    have hid := (node_ids (h.ok i hi)).1
    rw [depthN_succ, if_neg (by omega), first_only h.uniq hi, if_neg (by omega), Int.toNat_natCast]
    rcases h.step i hi with ⟨e, e1⟩ | ⟨k, hk, e, _, e1⟩
    · rw [e, e1]
      cases f with
      | zero => omega
      | succ f => rw [depthN_succ, if_pos rfl]
    · rw [← e] at e1
      rw [← e, ih k (c + 1) hk (by omega), e1]
      omega
theorem Ranked.right {X : Nat → Nd} {n : Nat} {d : Int → Int} (h : Ranked X n d) (hd : ∀ i, i < n → 1 ≤ d (X i).id ∧ d (X i).id ≤ 4) : ScOk X n := by
  refine ⟨h.few, fun i hi => okAt_iff.2 ⟨h.ok i hi, first_only h.uniq hi, ?_, ?_⟩⟩
  · have := hd i hi
    have e := h.depth (fun i hi => (hd i hi).1) 9 i 0 hi (by omega)
    unfold depthI
    rw [e]
    omega
  · rcases h.step i hi with ⟨e, _⟩ | ⟨k, hk, e, hg, _⟩
    · exact .inl e
    · refine .inr ?_
      rw [← e, first_only h.uniq hk, Int.toNat_natCast]
      exact ⟨by omega, hg⟩
theorem ScOk.ranked {X : Nat → Nd} {n : Nat} (hS : ScOk X n) : Ranked X n (depthI X n) := by
  refine ⟨hS.1, fun i hi => (okAt_iff.1 (hS.2 i hi)).1, hS.uniq, fun i hi => ?_⟩
  have e := depth_step hS hi
  rcases par_in hS hi with h | ⟨k, hk, h1, h2⟩
  · exact .inl ⟨h, by rw [e, h, depth_zero]; rfl⟩
  · exact .inr ⟨k, hk, h1, h2, e⟩
theorem ScOk.deep {X : Nat → Nd} {n : Nat} (hS : ScOk X n) : ∀ i, i < n → 1 ≤ depthI X n (X i).id ∧ depthI X n (X i).id ≤ 4 := fun i hi => (okAt_iff.1 (hS.2 i hi)).2.2.1
/-- A scene stays right where a node is set. -/
theorem scOk_set {X : Nat → Nd} {n k : Nat} {x : Nd} (hS : ScOk X n) (hk : k < n) (hx : nodeOkB x = true) (hid : x.id = (X k).id) (hp : nodeOkB (x.withPar (X k).par) = true) (hg : x.gr = true ∨ ∀ i, i < n → (X i).par ≠ x.id) : ScOk (upd X k (x.withPar (X k).par)) n := by
  have idE : ∀ i, (upd X k (x.withPar (X k).par) i).id = (X i).id := fun i => by
    by_cases e : i = k
    · subst e; rw [upd_at]; exact hid
    · rw [upd_ne _ _ e]
  have parE : ∀ i, (upd X k (x.withPar (X k).par) i).par = (X i).par := fun i => by
    by_cases e : i = k
    · subst e; rw [upd_at]; rfl
    · rw [upd_ne _ _ e]
  have r := hS.ranked
  refine Ranked.right (d := depthI X n) ⟨r.few, fun i hi => ?_, fun i j hi hj e => r.uniq i j hi hj (by rw [idE, idE] at e; exact e), fun i hi => ?_⟩ (fun i hi => by rw [idE]; exact hS.deep i hi)
  · by_cases e : i = k
    · subst e; rw [upd_at]; exact hp
    · rw [upd_ne _ _ e]; exact r.ok i hi
  · rw [idE, parE]
    rcases r.step i hi with h | ⟨j, hj, e1, e2, e3⟩
    · exact .inl h
    · refine .inr ⟨j, hj, by rw [idE]; exact e1, ?_, e3⟩
      by_cases e : j = k
      · subst e
        rw [upd_at]
        rcases hg with h | h
        · exact h
        · exact absurd (by rw [hid]; exact e1.symm) (h i hi)
      · rw [upd_ne _ _ e]; exact e2
/-- Who is kept has a parent that is kept. -/
theorem kept_par {X : Nat → Nd} {n : Nat} {id : Int} (hS : ScOk X n) {i j : Nat} (hi : i < n) (hj : j < n) (e : (X j).id = (X i).par) (hq : dropQ X n id i = false) : dropQ X n id j = false := by
  cases hq' : dropQ X n id j with
  | false => rfl
  | true =>
    exfalso
    unfold dropQ underB at hq hq'
    have hne := first_only hS.uniq hi
    have h9 : underN X n id 9 (X i).id = if (X i).id = id then true else if firstN X (X i).id n < 0 then false else underN X n id 8 (X (firstN X (X i).id n).toNat).par := rfl
    rw [h9] at hq
    split at hq
    · cases hq
    · rw [hne, if_neg (by omega), Int.toNat_natCast, ← e] at hq
      -- with nine steps it is found, with eight not: the way up is at most four long
      have hdp := hS.deep j hj
      have key : ∀ (f : Nat) (t : Nat), t < n → depthI X n (X t).id < (f : Int) → underN X n id (f + 1) (X t).id = true → underN X n id f (X t).id = true := by
        intro f
        induction f with
        | zero => intro t ht h1 _; have := hS.deep t ht; omega
        | succ f ih =>
          intro t ht h1 h2
          unfold underN at h2 ⊢
          by_cases e1 : (X t).id = id
          · rw [if_pos e1]
          · rw [if_neg e1] at h2 ⊢
            rw [first_only hS.uniq ht, if_neg (by omega), Int.toNat_natCast] at h2 ⊢
            rcases par_in hS ht with h0 | ⟨k, hk, e2, _⟩
            · rw [h0] at h2 ⊢
              cases f with
              | zero => have := hS.deep t ht; omega
              | succ f =>
                have hz : firstN X 0 n < 0 := scOk_noZ hS
                unfold underN at h2 ⊢
                by_cases e3 : (0 : Int) = id
                · rw [if_pos e3]
                · rw [if_neg e3, if_pos hz] at h2
                  cases h2
            · rw [← e2] at h2 ⊢
              refine ih k hk ?_ h2
              have := depth_step hS ht
              rw [← e2] at this
              omega
      rw [key 8 j hj (by omega) hq'] at hq
      cases hq
theorem keep_mem {q : Nat → Bool} : ∀ {n t : Nat}, t < n → q t = false → t ∈ keepI q n
  | 0, _, h, _ => absurd h (by omega)
  | n + 1, t, h, hq => by
    by_cases e : t = n
    · subst e; rw [keep_no hq]; simp
    · have := keep_mem (n := n) (t := t) (by omega) hq
      unfold keepI
      split
      · exact this
      · exact List.mem_append_left _ this
/-- A scene stays right where a node is dropped, with all below it. -/
theorem scOk_drop {X : Nat → Nd} {n : Nat} (hS : ScOk X n) (id : Int) : ScOk (pickF X (keepI (dropQ X n id) n)) (keepI (dropQ X n id) n).length := by
  have r := hS.ranked
  have ix : ∀ j, j < (keepI (dropQ X n id) n).length → ∃ t, t < n ∧ dropQ X n id t = false ∧ (keepI (dropQ X n id) n)[j]? = some t ∧ pickF X (keepI (dropQ X n id) n) j = X t := fun j hj =>
    ⟨_, (keep_lt _ n _ (List.getElem_mem hj)).1, (keep_lt _ n _ (List.getElem_mem hj)).2, List.getElem?_eq_getElem hj, pickF_at X _ hj⟩
  have back : ∀ t, t < n → dropQ X n id t = false → ∃ j, j < (keepI (dropQ X n id) n).length ∧ pickF X (keepI (dropQ X n id) n) j = X t := fun t ht hq => by
    have hm : t ∈ keepI (dropQ X n id) n := keep_mem ht hq
    obtain ⟨j, hj, e⟩ := List.mem_iff_getElem.1 hm
    exact ⟨j, hj, by rw [pickF_at X _ hj, e]⟩
  refine Ranked.right (d := depthI X n) ⟨by have := keep_le (dropQ X n id) n; have := r.few; omega, fun i hi => ?_, fun i j hi hj e => ?_, fun i hi => ?_⟩ (fun i hi => ?_)
  · obtain ⟨t, ht, _, _, e⟩ := ix i hi
    rw [e]; exact r.ok t ht
  · obtain ⟨t, ht, _, e1, e2⟩ := ix i hi
    obtain ⟨t', ht', _, e3, e4⟩ := ix j hj
    rw [e2, e4] at e
    obtain rfl := r.uniq t t' ht ht' e
    have a := List.getElem?_eq_some_iff.1 e1
    have b := List.getElem?_eq_some_iff.1 e3
    exact (List.getElem_inj (keep_nodup _ n)).1 (a.2.trans b.2.symm)
  · obtain ⟨t, ht, hq, _, e⟩ := ix i hi
    rw [e]
    rcases r.step t ht with h | ⟨k, hk, e1, e2, e3⟩
    · exact .inl h
    · obtain ⟨j, hj, ej⟩ := back k hk (kept_par hS ht hk e1 hq)
      exact .inr ⟨j, hj, by rw [ej]; exact e1, by rw [ej]; exact e2, e3⟩
  · obtain ⟨t, ht, _, _, e⟩ := ix i hi
    rw [e]; exact hS.deep t ht
end Go.Proofs.YtmafopckplpajaaGreatDoor

/-
  Nodes that are placed: what both sides reckon.
-/
namespace Go.Proofs.YtmafopckplpajaaGreatDoor
open Go.RowKit
set_option linter.unusedVariables false

/-- Is a node of another Id under, its parent is. -/
theorem under_step {X : Nat → Nd} {n : Nat} {id : Int} (hS : ScOk X n) {i : Nat} (hi : i < n) (hne : (X i).id ≠ id) : underB X n (X i).id id = (if (X i).par = 0 then false else underB X n (X i).par id) ∨ id = 0 := by
  by_cases h0 : id = 0
  · exact .inr h0
  refine .inl ?_
  have h9 : underB X n (X i).id id = if (X i).id = id then true else if firstN X (X i).id n < 0 then false else underN X n id 8 (X (firstN X (X i).id n).toNat).par := rfl
  rw [h9, if_neg hne, first_only hS.uniq hi, if_neg (by omega), Int.toNat_natCast]
  have key : ∀ (f : Nat) (t : Nat), t < n → depthI X n (X t).id < (f : Int) → underN X n id (f + 1) (X t).id = underN X n id f (X t).id := by
    intro f
    induction f with
    | zero => intro t ht h1; have := hS.deep t ht; omega
    | succ f ih =>
      intro t ht h1
      have e1 : ∀ g : Nat, underN X n id (g + 1) (X t).id = if (X t).id = id then true else underN X n id g (X t).par := fun g => by
        show (if (X t).id = id then true else if firstN X (X t).id n < 0 then false else underN X n id g (X (firstN X (X t).id n).toNat).par) = _
        rw [first_only hS.uniq ht, if_neg (show ¬ ((t : Int) < 0) by omega), Int.toNat_natCast]
      rw [e1, e1]
      by_cases e : (X t).id = id
      · rw [if_pos e, if_pos e]
      · rw [if_neg e, if_neg e]
        rcases par_in hS ht with hp | ⟨k, hk, e2, _⟩
        · rw [hp]
          have hz := scOk_noZ hS
          have z1 : ∀ g : Nat, underN X n id (g + 1) 0 = false := fun g => by
            show (if (0 : Int) = id then true else if firstN X 0 n < 0 then false else _) = false
            rw [if_neg (fun e => h0 e.symm), if_pos hz]
          cases f with
          | zero => have := hS.deep t ht; omega
          | succ f => rw [z1, z1]
        · rw [← e2]
          refine ih k hk ?_
          have := depth_step hS ht
          rw [← e2] at this
          omega
  rcases par_in hS hi with hp | ⟨k, hk, e2, _⟩
  · rw [hp, if_pos rfl]
    have hz := scOk_noZ hS
    show (if (0 : Int) = id then true else if firstN X 0 n < 0 then false else _) = false
    rw [if_neg (fun e => h0 e.symm), if_pos hz]
  · have hkid := (node_ids (okAt_iff.1 (hS.2 k hk)).1).1
    rw [if_neg (by rw [← e2]; omega), ← e2]
    exact (key 8 k hk (by have := hS.deep k hk; omega)).symm
/-- How deep the nodes are when one is placed below another. -/
noncomputable def rankP (X : Nat → Nd) (n : Nat) (id par : Int) (y : Int) : Int := if underB X n y id = true then depthI X n y + (depthI X n par + 1 - depthI X n id) else depthI X n y
theorem under_me (X : Nat → Nd) (n : Nat) (id : Int) : underB X n id id = true := by
  show (if id = id then true else _) = true
  rw [if_pos rfl]
theorem place_ranked {X : Nat → Nd} {n k : Nat} {par : Int} (hS : ScOk X n) (hk : k < n) (hold : holdB X n par = true) (hring : ¬ (par ≠ 0 ∧ underB X n par (X k).id = true)) :
    Ranked (upd X k ((X k).withPar par)) n (rankP X n (X k).id par) := by
  have r := hS.ranked
  have hkid := (node_ids (r.ok k hk)).1
  have idE : ∀ i, (upd X k ((X k).withPar par) i).id = (X i).id := fun i => by
    by_cases e : i = k
    · subst e; rw [upd_at]; rfl
    · rw [upd_ne _ _ e]
  have grE : ∀ i, (upd X k ((X k).withPar par) i).gr = (X i).gr := fun i => by
    by_cases e : i = k
    · subst e; rw [upd_at]; rfl
    · rw [upd_ne _ _ e]
  have hpar : par = 0 ∨ ∃ j, j < n ∧ (X j).id = par ∧ (X j).gr = true := by
    unfold holdB at hold
    by_cases h0 : par = 0
    · exact .inl h0
    · rw [decide_eq_false h0, Bool.false_or, Bool.and_eq_true, decide_eq_true_iff] at hold
      obtain ⟨j, hj, e1, e2⟩ := first_lt (X := X) (id := par) (n := n) (by omega)
      rw [e1, Int.toNat_natCast] at hold
      exact .inr ⟨j, hj, e2, hold.2⟩
  refine ⟨r.few, fun i hi => ?_, fun i j hi hj e => r.uniq i j hi hj (by rw [idE, idE] at e; exact e), fun i hi => ?_⟩
  · by_cases e : i = k
    · subst e
      rw [upd_at]
      have hok := r.ok i hi
      have hp : (0 ≤ par ∧ par ≤ 99) ∧ (X i).id ≠ par := by
        rcases hpar with h | ⟨j, hj, e, _⟩
        · exact ⟨by omega, by omega⟩
        · have := (node_ids (r.ok j hj)).1
          refine ⟨by omega, fun e2 => hring ⟨by omega, ?_⟩⟩
          rw [← e2]
          exact under_me X n _
      unfold nodeOkB at hok ⊢
      simp only [Bool.and_eq_true, inB_true, Bool.not_eq_true', decide_eq_false_iff_not] at hok ⊢
      exact ⟨hok.1, hp.1, hp.2, hok.2.2.2⟩
    · rw [upd_ne _ _ e]; exact r.ok i hi
  · rw [idE]
    by_cases e : i = k
    · subst e
      have d0 : rankP X n (X i).id par (X i).id = depthI X n par + 1 := by unfold rankP; rw [if_pos (under_me X n _)]; omega
      rw [upd_at, d0]
      show (par = 0 ∧ _) ∨ _
      rcases hpar with h | ⟨j, hj, e1, e2⟩
      · exact .inl ⟨h, by rw [h, depth_zero]; rfl⟩
      · refine .inr ⟨j, hj, by rw [idE]; exact e1, by rw [grE]; exact e2, ?_⟩
        show depthI X n par + 1 = rankP X n (X i).id par par + 1
        unfold rankP
        rw [if_neg (fun h => hring ⟨by have := (node_ids (r.ok j hj)).1; omega, h⟩)]
    · rw [upd_ne _ _ e]
      have hne : (X i).id ≠ (X k).id := fun h => e (r.uniq i k hi hk h)
      have us := (under_step hS hi hne).resolve_right (by omega)
      rcases r.step i hi with ⟨h0, h1⟩ | ⟨j, hj, e1, e2, e3⟩
      · refine .inl ⟨h0, ?_⟩
        unfold rankP
        rw [us, if_pos h0, if_neg (by decide)]
        exact h1
      · refine .inr ⟨j, hj, by rw [idE]; exact e1, by rw [grE]; exact e2, ?_⟩
        have hp0 : (X i).par ≠ 0 := by have := (node_ids (r.ok j hj)).1; omega
        unfold rankP
        rw [us, if_neg hp0, e3]
        split <;> omega
theorem rank_same {X : Nat → Nd} {n : Nat} {d : Int → Int} (h : Ranked X n d) (hS : ScOk X n) : ∀ (m : Nat) (i : Nat), i < n → depthI X n (X i).id ≤ (m : Int) → d (X i).id = depthI X n (X i).id := by
  intro m
  induction m with
  | zero => intro i hi h1; have := hS.deep i hi; omega
  | succ m ih =>
    intro i hi h1
    have r := hS.ranked
    rcases h.step i hi with ⟨e, e1⟩ | ⟨k, hk, e, _, e1⟩
    · rw [e1]
      have := depth_step hS hi
      rw [e, depth_zero] at this
      omega
    · have e2 := depth_step hS hi
      rw [← e] at e1 e2
      rw [e1, e2, ih k hk (by omega)]
/-- The placed scene is right just when no node under it is too deep. -/
theorem place_right {X : Nat → Nd} {n k : Nat} {par : Int} (hS : ScOk X n) (hk : k < n) (hold : holdB X n par = true) (hring : ¬ (par ≠ 0 ∧ underB X n par (X k).id = true)) :
    ScOk (upd X k ((X k).withPar par)) n ↔ ∀ i, i < n → underB X n (X i).id (X k).id = true → 1 ≤ depthI X n (X i).id + (depthI X n par + 1 - depthI X n (X k).id) ∧ depthI X n (X i).id + (depthI X n par + 1 - depthI X n (X k).id) ≤ 4 := by
  have hr := place_ranked hS hk hold hring
  have idE : ∀ i, (upd X k ((X k).withPar par) i).id = (X i).id := fun i => by
    by_cases e : i = k
    · subst e; rw [upd_at]; rfl
    · rw [upd_ne _ _ e]
  constructor
  · intro h i hi hu
    have e := rank_same hr h 4 i hi (by exact (h.deep i hi).2)
    have hd := h.deep i hi
    rw [← e, idE] at hd
    unfold rankP at hd
    rw [if_pos hu] at hd
    exact hd
  · intro h
    refine hr.right (fun i hi => ?_)
    rw [idE]
    unfold rankP
    split
    · next hu => exact h i hi hu
    · exact hS.deep i hi
/-- The order of the nodes when node k stands behind another one. -/
def ordS (X : Nat → Nd) (k : Nat) (beh : Int) : Nat → List Nat
  | 0 => if beh = 0 then [k] else []
  | i + 1 => ordS X k beh i ++ ((if i = k then [] else [i]) ++ (if (X i).id = beh ∧ beh ≠ 0 then [k] else []))
theorem ord_zero (X : Nat → Nd) (k n : Nat) : ordS X k 0 n = k :: keepI (fun i => i == k) n := by
  induction n with
  | zero => rfl
  | succ n ih =>
    unfold ordS keepI
    rw [ih]
    by_cases e : n = k
    · subst e; simp
    · simp [e]
theorem ord_before (X : Nat → Nd) (k : Nat) (beh : Int) (hb : beh ≠ 0) : ∀ n, (∀ i, i < n → (X i).id ≠ beh) → ordS X k beh n = keepI (fun i => i == k) n
  | 0, _ => by unfold ordS keepI; rw [if_neg hb]
  | n + 1, h => by
    unfold ordS keepI
    rw [ord_before X k beh hb n (fun i hi => h i (by omega)), if_neg (c := (X n).id = beh ∧ beh ≠ 0) (fun e => h n (by omega) e.1)]
    by_cases e : n = k
    · subst e; simp
    · simp [e]
/-- Behind place j the node itself comes. -/
theorem ord_behind (X : Nat → Nd) (k j : Nat) (beh : Int) (hb : beh ≠ 0) (hj : (X j).id = beh) (hjk : j ≠ k) : ∀ m, (∀ i, i < j + 1 + m → i ≠ j → (X i).id ≠ beh) → ∃ R, ordS X k beh (j + 1 + m) = keepI (fun i => i == k) (j + 1) ++ (k :: R) ∧ keepI (fun i => i == k) (j + 1 + m) = keepI (fun i => i == k) (j + 1) ++ R
  | 0, h => by
    refine ⟨[], ?_, by simp⟩
    show ordS X k beh (j + 1) = _
    have e0 := ord_before X k beh hb j (fun i hi => h i (by omega) (by omega))
    have e1 : ordS X k beh (j + 1) = ordS X k beh j ++ ((if j = k then [] else [j]) ++ (if (X j).id = beh ∧ beh ≠ 0 then [k] else [])) := rfl
    rw [e1, e0, if_neg hjk, if_pos ⟨hj, hb⟩, keep_no (q := fun i => i == k) (k := j) (by simp [hjk])]
    simp
  | m + 1, h => by
    obtain ⟨R, e1, e2⟩ := ord_behind X k j beh hb hj hjk m (fun i hi => h i (by omega))
    have s1 : ordS X k beh (j + 1 + m + 1) = ordS X k beh (j + 1 + m) ++ ((if j + 1 + m = k then [] else [j + 1 + m]) ++ (if (X (j + 1 + m)).id = beh ∧ beh ≠ 0 then [k] else [])) := rfl
    refine ⟨R ++ (if j + 1 + m = k then [] else [j + 1 + m]), ?_, ?_⟩
    · show ordS X k beh (j + 1 + m + 1) = _
      rw [s1, e1, if_neg (c := (X (j + 1 + m)).id = beh ∧ beh ≠ 0) (fun e => h (j + 1 + m) (by omega) (by omega) e.1)]
      simp
    · show keepI (fun i => i == k) (j + 1 + m + 1) = _
      by_cases e : j + 1 + m = k
      · rw [keep_yes (by simp [e]), e2, if_pos e]; simp
      · rw [keep_no (by simp [e]), e2, if_neg e]; simp
end Go.Proofs.YtmafopckplpajaaGreatDoor

/-
  The program's mayChange, mayCreate, maySet.
-/
namespace Go.Proofs.YtmafopckplpajaaGreatDoor
open Go.RowKit
set_option linter.unusedVariables false

set_option maxHeartbeats 4000000 in
theorem implMayChange_any (X : Nat → Nd) (A : Nat → Na) (ao : Option Addr) (n cp : Nat) (hn : n ≤ 1048576) (hs : ∀ i, i < n → (X i).Small) (hw : Wf X n) (id : Int) (w : World) (P : ∀ i, i < n → NrAt w ao i (X i) (A i)) :
    Calls Tryz.prog 55 #[.agg #[.slice ao n cp], .int .i64 id] w fun r w' => r = .returned (errV (changeC X n id)) ∧ Below w.heap.size w w' := by
  have E1 := hide (fun u => implSceneOk_any X A ao n cp hn hs hw.id hw.par u)
  have E2 := hide (fun u => implNodeAt_any X A ao n cp hn id u)
  replace P := hide P
  clear hs hw
  obtain ⟨C, hC⟩ : ∃ C, Hid (C = errV (changeC X n id)) := ⟨_, rfl⟩
  rw [← unhide hC]
  have hC' := hide (show C = errV (if ¬ sceneOkB X n = true then 1 else if firstN X id n < 0 then 2 else 0) from unhide hC)
  clear hC
  go_enter Tryz.func55, Tryz.ntmps55
  go_upto_region 1 with fail
  have R := hide (new_row w (.cells #[.slice ao n cp] 26))
  have HB := hide (al1_below w (.cells #[.slice ao n cp] 26))
  obtain ⟨b1, hb1⟩ : ∃ z, Hid (z = w.heap.size) := ⟨_, rfl⟩
  rw [← unhide hb1] at R ⊢
  clear hb1
  generalize w.alloc (.cells #[.slice ao n cp] 26) = W at R HB ⊢
  have c0 := row1 (unhide R)
  go_wp2_with fail
  go_fit (unhide E1 _ (fun i hi => (unhide P i hi).next (unhide HB)))
  rintro r u1 ⟨rfl, hb⟩
  replace R := hide (row_next hb (unhide R))
  replace HB := hide (below_two (unhide HB) hb)
  clear hb c0 E1
  cases hok : sceneOkB X n with
  | false =>
    rw [hok, if_pos (by simp)] at hC'
    rw [errV_is (by decide)] at hC'
    clear hok
    go_wp2_with fail
    go_ret
    exact ⟨by rw [unhide hC']; rfl, unhide HB⟩
  | true =>
    rw [hok, if_neg (by simp)] at hC'
    clear hok
    have c0 := row1 (unhide R)
    go_wp2_with fail
    go_fit (unhide E2 _ (fun i hi => (unhide P i hi).next (unhide HB)))
    rintro r u2 ⟨rfl, hb⟩
    replace HB := hide (below_two (unhide HB) hb)
    clear hb c0 E2
    by_cases hf : firstN X id n < 0
    · rw [if_pos hf, errV_is (by decide)] at hC'
      generalize firstN X id n = Z at hf ⊢
      go_wp2_with fail
      go_ret
      exact ⟨by rw [unhide hC']; rfl, unhide HB⟩
    · rw [if_neg hf, errV_nil] at hC'
      generalize firstN X id n = Z at hf ⊢
      go_wp2_with fail
      go_ret
      exact ⟨by rw [unhide hC']; rfl, unhide HB⟩

set_option maxHeartbeats 8000000 in
set_option maxRecDepth 100000 in
theorem implMayCreate_any (X : Nat → Nd) (A : Nat → Na) (ao : Option Addr) (n cp : Nat) (hn : n ≤ 1048576) (hs : ∀ i, i < n → (X i).Small) (hw : Wf X n) (x : Nd) (s : Na) (hx : x.Small) (w1 : (Lit.int .i64 x.id).wf = true) (w2 : (Lit.int .i64 x.par).wf = true) (w : World) (P : ∀ i, i < n → NrAt w ao i (X i) (A i)) (H : NdIn w x s) :
    Calls Tryz.prog 42 #[.agg #[.slice ao n cp], .agg (ndC x s)] w fun r w' => r = .returned (errV (createC X n x)) ∧ Below w.heap.size w w' := by
  have E1 := hide (fun u => implSceneOk_any X A ao n cp hn hs hw.id hw.par u)
  have E2 := hide (fun u => implNodeOk_c x s hx u)
  have E3 := hide (fun u => implStandingOf_any X A ao n cp hn hw.id u)
  have E4 := hide (fun u m => implMayHold_any X A ao n m x.par w2 u)
  have E5 := hide (fun u m => implDepthOfM_any X A ao n m hw.par x.par w2 u)
  have E6 := hide implDepthOk_any
  replace P := hide P
  replace H := hide H
  have hdj := hide (show ScOk X n → depthJ X n x.par = depthI X n x.par from fun h => depthJ_is (.inr (scOk_noZ h)))
  have hnn := hide (show 0 ≤ depthI X n x.par ∧ depthI X n x.par ≤ 9 by have h1 := depth_nn (X := X) (n := n) 9 0 x.par (by omega); have h2 := depth_le (X := X) (n := n) 9 0 x.par (by omega); unfold depthI; omega)
  clear hs hw hx
  obtain ⟨C, hC⟩ : ∃ C, Hid (C = errV (createC X n x)) := ⟨_, rfl⟩
  rw [← unhide hC]
  have hC' := hide (show C = errV (if ¬ (sceneOkB X n = true ∧ nodeOkB x = true) then 1 else if 0 ≤ firstN X x.id n then 3 else if holdB X n x.par = false then 2 else if n = 8 then 4 else if 4 ≤ depthI X n x.par then 5 else 0) from unhide hC)
  clear hC
  go_enter Tryz.func42, Tryz.ntmps42
  go_upto_region 1 with fail
  have R1 := hide (al2_0 w (.cells #[.slice ao n cp] 26) (.cells (ndC x s) 41))
  have R2 := hide (al2_1 w (.cells #[.slice ao n cp] 26) (.cells (ndC x s) 41))
  have HB := hide (al2_below w (.cells #[.slice ao n cp] 26) (.cells (ndC x s) 41))
  obtain ⟨b2, hb2⟩ : ∃ b, Hid (b = w.heap.size + 1) := ⟨_, rfl⟩
  obtain ⟨b1, hb1⟩ : ∃ b, Hid (b = w.heap.size) := ⟨_, rfl⟩
  rw [← unhide hb2] at R2
  rw [← unhide hb1] at R1
  rw [← unhide hb2, ← unhide hb1]
  generalize (w.alloc (.cells #[.slice ao n cp] 26)).alloc (.cells (ndC x s) 41) = W at R1 R2 HB ⊢
  clear hb2 hb1
  have c0 := row1 (unhide R1)
  go_wp2_with fail
  go_fit (unhide E1 _ (fun i hi => (unhide P i hi).next (unhide HB)))
  rintro r u1 ⟨rfl, hb⟩
  replace R1 := hide (row_next hb (unhide R1))
  replace R2 := hide (row_next hb (unhide R2))
  replace HB := hide (below_two (unhide HB) hb)
  clear hb c0 E1
  cases hok : sceneOkB X n with
  | false =>
    rw [hok, if_pos (by simp), errV_is (by decide)] at hC'
    clear hok
    go_wp2_with fail
    go_ret
    exact ⟨by rw [unhide hC']; rfl, unhide HB⟩
  | true =>
    have hS := hide (sceneOk_iff.1 hok)
    rw [hok] at hC'
    clear hok
    go_wp2_with (refine load_own_g (by rfl) _ rfl b2 rfl x s 41 (unhide R2) ?_)
    go_fit (unhide E2 _ ((unhide H).next (unhide HB)))
    rintro r u2 ⟨rfl, hb⟩
    replace R1 := hide (row_next hb (unhide R1))
    replace R2 := hide (row_next hb (unhide R2))
    replace HB := hide (below_two (unhide HB) hb)
    clear hb E2
    cases hok : nodeOkB x with
    | false =>
      rw [hok, if_pos (by simp), errV_is (by decide)] at hC'
      clear hok
      go_wp2_with fail
      go_ret
      exact ⟨by rw [unhide hC']; rfl, unhide HB⟩
    | true =>
      rw [hok, if_neg (by simp)] at hC'
      clear hok
      have c0 := row1 (unhide R1)
      go_wp2_with fail
      go_fit (unhide E3 _ (fun i hi => (unhide P i hi).next (unhide HB)))
      rintro r u3 ⟨m, rfl, S, _, hb⟩
      replace R1 := hide (row_next hb (unhide R1))
      replace R2 := hide (row_next hb (unhide R2))
      replace HB := hide (below_two (unhide HB) hb)
      have F4 := hide (unhide E4 u3 m S (fun i hi => (unhide P i hi).next (unhide HB)))
      have F5 := hide (unhide E5 u3 m S (fun i hi => (unhide P i hi).next (unhide HB)))
      have hl := S.look x.id w1
      clear hb c0 E3 E4 E5 S
      obtain ⟨d0, d1, d2⟩ := headsC (unhide R2)
      by_cases hf : 0 ≤ firstN X x.id n
      · rw [if_pos hf, errV_is (by decide)] at hC'
        have hl2 : ∃ q, stP ao X n x.id = .pointer (some q) := by
          rcases first_is (X := X) (id := x.id) n with ⟨e, _⟩ | ⟨j, hj, e, _, _⟩
          · omega
          · obtain ⟨b, o, hao, _⟩ := unhide P j hj
            rw [hao, stP_at e]
            exact ⟨_, rfl⟩
        obtain ⟨q, hq⟩ := hl2
        rw [hq] at hl
        clear hf hq
        go_wp2_with fail
        go_ret
        exact ⟨by rw [unhide hC']; rfl, unhide HB⟩
      · rw [if_neg hf] at hC'
        rw [stP_none (by omega)] at hl
        clear hf
        go_wp2_with fail
        go_fit (unhide F4)
        rintro r u4 ⟨rfl, hu⟩
        rw [hu]
        clear hu u4 F4
        cases hh : holdB X n x.par with
        | false =>
          rw [hh, if_pos rfl, errV_is (by decide)] at hC'
          clear hh
          go_wp2_with fail
          go_ret
          exact ⟨by rw [unhide hC']; rfl, unhide HB⟩
        | true =>
          rw [hh, if_neg (by decide)] at hC'
          clear hh
          have c0 := row1 (unhide R1)
          by_cases h8 : n = 8
          · rw [if_pos h8, errV_is (by decide)] at hC'
            subst h8
            go_wp2_with fail
            go_ret
            exact ⟨by rw [unhide hC']; rfl, unhide HB⟩
          · rw [if_neg h8] at hC'
            have h8' : ¬ (8 : Int) ≤ (n : Int) := by have := (unhide hS).1; omega
            go_upto_region 10 with fail
            have hjS := unhide hdj (unhide hS)
            obtain ⟨Z, hZ⟩ : ∃ Z, Hid (Z = depthI X n x.par) := ⟨_, rfl⟩
            rw [← unhide hZ] at hjS hC' hnn
            rw [hjS] at F5
            have hwr : IntKind.i64.wrap (Z + 1) = Z + 1 := IntWalk.i64_in _ (by have := unhide hnn; omega)
            have E7 := hide (show ∀ _ : Nat, Calls Tryz.prog 98 #[.map (some m), .int .i64 x.par] u3 fun r w' => r = .returned (.int .i64 (Z + 1)) ∧ w' = u3 from fun _ => by
              go_enter Tryz.func98, Tryz.ntmps98
              go_wp2_with fail
              go_fit (unhide F5)
              rintro r u ⟨rfl, hu⟩
              rw [hu]
              go_wp2_with fail
              go_ret
              exact ⟨rfl, rfl⟩)
            clear hjS hZ F5
            obtain ⟨d0, d1, d2⟩ := headsC (unhide R2)
            go_wp2_with fail
            go_fit (unhide E7 0)
            rintro r u5 ⟨rfl, hu⟩
            rw [hu]
            clear hu u5 E7
            have E8 := hide (unhide E6 (Z + 1) u3)
            by_cases hz : 4 ≤ Z
            · rw [if_pos hz, errV_is (by decide)] at hC'
              rw [show inB (Z + 1) 1 4 = false by unfold inB; simp; omega] at E8
              go_wp2_with fail
              go_fit (unhide E8)
              rintro r u6 ⟨rfl, hu⟩
              rw [hu]
              go_wp2_with fail
              go_ret
              exact ⟨by rw [unhide hC']; rfl, unhide HB⟩
            · rw [if_neg hz, errV_nil] at hC'
              rw [inB_true.2 (by have := unhide hnn; omega)] at E8
              go_wp2_with fail
              go_fit (unhide E8)
              rintro r u6 ⟨rfl, hu⟩
              rw [hu]
              go_wp2_with fail
              go_ret
              exact ⟨by rw [unhide hC']; rfl, unhide HB⟩

theorem ids_len {w w' : World} {r : Ending} {L : List Int} (h : IdsRes w r w' L) : ∃ p cp, r = .returned (.slice p L.length cp) ∧ Below w.heap.size w w' := let ⟨p, cp, h1, _, h3⟩ := h; ⟨p, cp, h1, h3⟩

set_option maxHeartbeats 8000000 in
set_option maxRecDepth 100000 in
theorem implMaySet_any (X : Nat → Nd) (A : Nat → Na) (ao : Option Addr) (n cp : Nat) (hn : n ≤ 1048576) (hs : ∀ i, i < n → (X i).Small) (hw : Wf X n) (x : Nd) (s : Na) (hx : x.Small) (w : World) (P : ∀ i, i < n → NrAt w ao i (X i) (A i)) (H : NdIn w x s) :
    Calls Tryz.prog 72 #[.agg #[.slice ao n cp], .agg (ndC x s)] w fun r w' => r = .returned (errV (setC16 X n x)) ∧ Below w.heap.size w w' := by
  have E1 := hide (fun u => implNodeOk_c x s hx u)
  have E2 := hide (fun u => implMayChange_any X A ao n cp hn hs hw x.id u)
  have E3 := hide (fun u P => (implKidsOf_any X A ao n cp hn x.id u P).mono fun _ _ h => ids_len h)
  have hL := hide (show (kidsL X n x.id).length ≤ n from pick_le X _ n)
  replace P := hide P
  replace H := hide H
  clear hs hw hx
  obtain ⟨C, hC⟩ : ∃ C, Hid (C = errV (setC16 X n x)) := ⟨_, rfl⟩
  rw [← unhide hC]
  have hC' := hide (show C = errV (if ¬ (sceneOkB X n = true ∧ nodeOkB x = true) then 1 else if firstN X x.id n < 0 then 2 else if x.gr = false ∧ 0 < (kidsL X n x.id).length then 1 else 0) from unhide hC)
  clear hC
  go_enter Tryz.func72, Tryz.ntmps72
  go_upto_region 1 with fail
  have R1 := hide (al2_0 w (.cells #[.slice ao n cp] 26) (.cells (ndC x s) 41))
  have R2 := hide (al2_1 w (.cells #[.slice ao n cp] 26) (.cells (ndC x s) 41))
  have HB := hide (al2_below w (.cells #[.slice ao n cp] 26) (.cells (ndC x s) 41))
  obtain ⟨b2, hb2⟩ : ∃ b, Hid (b = w.heap.size + 1) := ⟨_, rfl⟩
  obtain ⟨b1, hb1⟩ : ∃ b, Hid (b = w.heap.size) := ⟨_, rfl⟩
  rw [← unhide hb2] at R2
  rw [← unhide hb1] at R1
  rw [← unhide hb2, ← unhide hb1]
  generalize (w.alloc (.cells #[.slice ao n cp] 26)).alloc (.cells (ndC x s) 41) = W at R1 R2 HB ⊢
  clear hb2 hb1
  go_wp2_with (refine load_own rfl _ rfl b2 rfl x s 41 (unhide R2) ?_)
  go_fit (unhide E1 _ ((unhide H).next (unhide HB)))
  rintro r u1 ⟨rfl, hb⟩
  replace R1 := hide (row_next hb (unhide R1))
  replace R2 := hide (row_next hb (unhide R2))
  replace HB := hide (below_two (unhide HB) hb)
  clear hb E1
  cases hok : nodeOkB x with
  | false =>
    rw [hok, if_pos (by simp), errV_is (by decide)] at hC'
    clear hok
    go_wp2_with fail
    go_ret
    exact ⟨by rw [unhide hC']; rfl, unhide HB⟩
  | true =>
    rw [hok] at hC'
    clear hok
    have c0 := row1 (unhide R1)
    obtain ⟨d0, d1, d2⟩ := headsC (unhide R2)
    have F2 := hide (unhide E2 _ (fun i hi => (unhide P i hi).next (unhide HB)))
    go_wp2_with fail
    go_fit (unhide F2)
    rintro r u2 ⟨rfl, hb⟩
    replace R1 := hide (row_next hb (unhide R1))
    replace R2 := hide (row_next hb (unhide R2))
    replace HB := hide (below_two (unhide HB) hb)
    clear hb c0 d0 d1 d2 E2 F2
    cases hok : sceneOkB X n with
    | false =>
      rw [hok, if_pos (by simp), errV_is (by decide)] at hC'
      rw [show changeC X n x.id = 1 from if_pos (by rw [hok]; simp), errV_is (by decide)]
      clear hok
      go_wp2_with fail
      go_ret
      exact ⟨by rw [unhide hC']; rfl, unhide HB⟩
    | true =>
      rw [hok, if_neg (by simp)] at hC'
      rw [show changeC X n x.id = (if firstN X x.id n < 0 then 2 else 0) from if_neg (by rw [hok]; simp)]
      clear hok
      by_cases hf : firstN X x.id n < 0
      · rw [if_pos hf, errV_is (by decide)] at hC'
        rw [if_pos hf, errV_is (by decide)]
        clear hf
        go_wp2_with fail
        go_ret
        exact ⟨by rw [unhide hC']; rfl, unhide HB⟩
      · rw [if_neg hf] at hC'
        rw [if_neg hf, errV_nil]
        clear hf
        have c0 := row1 (unhide R1)
        obtain ⟨d0, d1, d2⟩ := headsC (unhide R2)
        cases hg : x.gr with
        | true =>
          rw [hg] at d2
          rw [hg, if_neg (by simp), errV_nil] at hC'
          go_wp2_with fail
          go_ret
          exact ⟨by rw [unhide hC']; rfl, unhide HB⟩
        | false =>
          rw [hg] at d2
          rw [hg] at hC'
          have F3 := hide (unhide E3 _ (fun i hi => (unhide P i hi).next (unhide HB)))
          go_wp2_with fail
          go_fit (unhide F3)
          rintro r u3 ⟨p, cp', rfl, hb⟩
          replace HB := hide (below_two (unhide HB) hb)
          clear hb F3 c0 d0 d1 d2 hg
          by_cases h0 : 0 < (kidsL X n x.id).length
          · rw [if_pos (by simp [h0]), errV_is (by decide)] at hC'
            have h0' : (0 : Int) < ((kidsL X n x.id).length : Int) := by omega
            go_wp2_with fail
            go_ret
            exact ⟨by rw [unhide hC']; rfl, unhide HB⟩
          · rw [if_neg (fun e => h0 e.2), errV_nil] at hC'
            have h0' : ¬ (0 : Int) < ((kidsL X n x.id).length : Int) := by omega
            go_wp2_with fail
            go_ret
            exact ⟨by rw [unhide hC']; rfl, unhide HB⟩
end Go.Proofs.YtmafopckplpajaaGreatDoor

/-
  The program's words for dropping: slices.Index, Contains, IndexFunc, DeleteFunc, clear.
-/
namespace Go.Proofs.YtmafopckplpajaaGreatDoor
open Go.RowKit
set_option linter.unusedVariables false

/-- The first place where q is so. -/
def firstQ (q : Nat → Bool) : Nat → Int
  | 0 => -1
  | n + 1 => if 0 ≤ firstQ q n then firstQ q n else if q n = true then (n : Int) else -1
theorem fq_none {q : Nat → Bool} : ∀ {n : Nat}, (∀ j, j < n → q j = false) → firstQ q n = -1
  | 0, _ => rfl
  | n + 1, h => by
    have e := fq_none (n := n) (fun j hj => h j (by omega))
    unfold firstQ
    rw [e, if_neg (by omega), if_neg (by rw [h n (by omega)]; decide)]
theorem fq_at {q : Nat → Bool} {k : Nat} (h : ∀ j, j < k → q j = false) (hk : q k = true) : ∀ {n : Nat}, k < n → firstQ q n = k
  | 0, hn => absurd hn (by omega)
  | n + 1, hn => by
    unfold firstQ
    by_cases e : k = n
    · subst e
      rw [fq_none h, if_neg (by omega), if_pos hk]
    · rw [fq_at h hk (n := n) (by omega), if_pos (by omega)]
theorem fq_is {q : Nat → Bool} : ∀ n : Nat, (firstQ q n = -1 ∧ ∀ j, j < n → q j = false) ∨ ∃ k : Nat, k < n ∧ firstQ q n = k ∧ q k = true ∧ ∀ j, j < k → q j = false
  | 0 => .inl ⟨rfl, fun j hj => absurd hj (by omega)⟩
  | n + 1 => by
    rcases fq_is (q := q) n with ⟨e, h⟩ | ⟨k, hk, e, h1, h2⟩
    · cases hx : q n with
      | true => exact .inr ⟨n, by omega, fq_at h hx (by omega), hx, h⟩
      | false =>
        have h' : ∀ j, j < n + 1 → q j = false := fun j hj => by
          by_cases e : j = n
          · subst e; exact hx
          · exact h j (by omega)
        exact .inl ⟨fq_none h', h'⟩
    · exact .inr ⟨k, by omega, fq_at h2 h1 (by omega), h1, h2⟩
def eqQ (f : Nat → Int) (z : Int) (k : Nat) : Bool := decide (f k = z)
/-- Is a number among these? -/
def hasB (f : Nat → Int) (n : Nat) (z : Int) : Bool := decide (0 ≤ firstQ (eqQ f z) n)
theorem has_iff {f : Nat → Int} {n : Nat} {z : Int} : hasB f n z = true ↔ ∃ i, i < n ∧ f i = z := by
  unfold hasB
  rw [decide_eq_true_iff]
  rcases fq_is (q := eqQ f z) n with ⟨e, h⟩ | ⟨k, hk, e, h1, _⟩
  · rw [e]
    constructor
    · intro h; omega
    · rintro ⟨i, hi, e⟩
      have := h i hi
      unfold eqQ at this
      rw [e] at this
      simp at this
  · rw [e]
    constructor
    · intro _; exact ⟨k, hk, by unfold eqQ at h1; simpa using h1⟩
    · intro _; omega

set_option maxHeartbeats 4000000 in
theorem implIndexI_any (f : Nat → Int) (ao : Option Addr) (n c : Nat) (hn : n ≤ 1048576) (z : Int) (w : World) (P : ∀ i, i < n → IntAt w ao i (f i)) :
    Calls Tryz.prog 120 #[.slice ao n c, .int .i64 z] w fun r w' => r = .returned (.int .i64 (firstQ (eqQ f z) n)) ∧ w' = w := by
  have hno : Hid ((∀ j, j < n → eqQ f z j = false) → firstQ (eqQ f z) n = -1) := fq_none
  have hyes : Hid (∀ k, (∀ j, j < k → eqQ f z j = false) → eqQ f z k = true → k < n → firstQ (eqQ f z) n = (k : Int)) := fun k h1 h2 h3 => fq_at h1 h2 h3
  have hq1 : Hid (∀ k, z = f k → eqQ f z k = true) := fun k e => by unfold eqQ; simp [e]
  have hq0 : Hid (∀ k, ¬ z = f k → eqQ f z k = false) := fun k e => by unfold eqQ; simp; exact fun h => e h.symm
  generalize firstQ (eqQ f z) n = Z at hno hyes ⊢
  replace P := hide P
  go_enter Tryz.func120, Tryz.ntmps120
  go_upto_region 2 with fail
  go_loopw [8] (fun i u => ∃ k : Nat, k ≤ n ∧ i = .int .i64 (k : Int) ∧ u = w ∧ Hid (∀ j, j < k → eqQ f z j = false)) (fun i _ => n - (intOf i).toNat)
  case atStart => exact ⟨0, Nat.zero_le _, rfl, rfl, fun j hj => absurd hj (by omega)⟩
  case round =>
    obtain ⟨k, hk, rfl, rfl, HK⟩ := hrel
    by_cases hkn : k < n
    · have hki : (k : Int) < (n : Int) := by omega
      obtain ⟨b, o, hao, g0⟩ := unhide P k hkn
      subst hao
      by_cases hx : z = f k
      · have hq : (z == f k) = true := beq_iff_eq.2 hx
        have hX := hide (unhide hyes k (unhide HK) (unhide hq1 k hx) hkn)
        clear hx
        go_wp2_with fail
        go_ret
        exact ⟨by rw [unhide hX]; rfl, by trivial⟩
      · have hq : (z == f k) = false := beq_eq_false_iff_ne.2 hx
        have HK2 : Hid (∀ j, j < k + 1 → eqQ f z j = false) := fun j hj => by
          by_cases e : j = k
          · subst e; exact unhide hq0 j hx
          · exact unhide HK j (by omega)
        go_wp2_with fail
        go_roundw
        case rel => exact ⟨k + 1, by omega, by go_num, by trivial, HK2⟩
        case measure => simp [intOf]; omega
    · have hke : k = n := by omega
      subst hke
      have hki : ¬ (k : Int) < (k : Int) := by omega
      have hX := hide (unhide hno (unhide HK))
      go_wp2_with fail
      go_ret
      exact ⟨by rw [unhide hX]; rfl, by trivial⟩

theorem implContainsI_any (f : Nat → Int) (ao : Option Addr) (n c : Nat) (hn : n ≤ 1048576) (z : Int) (w : World) (P : ∀ i, i < n → IntAt w ao i (f i)) :
    Calls Tryz.prog 59 #[.slice ao n c, .int .i64 z] w fun r w' => r = .returned (.bool (hasB f n z)) ∧ w' = w := by
  have E := hide (implIndexI_any f ao n c hn z w P)
  unfold hasB
  clear P
  go_enter Tryz.func59, Tryz.ntmps59
  go_wp2_with fail
  go_fit (unhide E)
  rintro r u ⟨rfl, hu⟩
  rw [hu]
  go_wp2_with fail
  go_ret
  exact ⟨rfl, rfl⟩
/-- The list of what is under a node, in its variable. -/
structure HU (u : World) (B b8 : Nat) (pu : Option Addr) (m cu : Nat) (f : Nat → Int) : Prop where
  row : u.heap[b8]? = some (.cells #[.slice pu m cu] 30 (0, 0))
  own : OwnI u B (.slice pu m cu) m f
theorem HU.next {u u' : World} {B b8 m cu : Nat} {pu : Option Addr} {f : Nat → Int} (h : HU u B b8 pu m cu f) (hb : Below u.heap.size u u') : HU u' B b8 pu m cu f := ⟨row_next hb h.row, h.own.next hb⟩
theorem HU.kept {u u' : World} {B b8 m cu : Nat} {pu : Option Addr} {f : Nat → Int} (h : HU u B b8 pu m cu f) {base n : Nat} {v : Value} {ys : List Value} (hr : u.ownsRow base 41 31 v n ys) (hg : u.grownBy u' v.ownBlock) : HU u' B b8 pu m cu f := by
  obtain ⟨xs, a1, a2⟩ := h.own
  refine ⟨(hg.block b8 (heap_lt h.row) (fun e => own_ty hr h.row (by decide) b8 e.symm rfl)).trans h.row, xs, a1.kept hg ?_, a2⟩
  cases hk : (Value.slice pu m cu).ownBlock with
  | none => exact .inl rfl
  | some q => exact .inr (fun e => own_kind a1 hr (by decide) q hk e.symm)
theorem HU.at {u : World} {B b8 m cu : Nat} {pu : Option Addr} {f : Nat → Int} (h : HU u B b8 pu m cu f) : ∀ i, i < m → IntAt u pu i (f i) := let ⟨_, a1, a2⟩ := h.own; own_ix a1 a2

set_option maxHeartbeats 4000000 in
theorem implDrop1_any (x : Nd) (s : Na) (B b8 : Nat) (pu : Option Addr) (m cu : Nat) (f : Nat → Int) (hm : m ≤ 1048576) (w : World) (h : HU w B b8 pu m cu f) :
    Calls Tryz.prog 58 #[.agg (ndC x s), .pointer (some ⟨b8, 0, none⟩)] w fun r w' => r = .returned (.bool (hasB f m x.id)) ∧ Below w.heap.size w w' := by
  have E := hide (fun u (hu : HU u B b8 pu m cu f) => implContainsI_any f pu m cu hm x.id u hu.at)
  go_enter Tryz.func58, Tryz.ntmps58
  go_upto_region 1 with fail
  have R := hide (new_row w (.cells (ndC x s) 41))
  have HB := hide (al1_below w (.cells (ndC x s) 41))
  replace h := hide (h.next (unhide HB))
  generalize w.alloc (.cells (ndC x s) 41) = W at R HB h ⊢
  obtain ⟨b1, hb1⟩ : ∃ b, Hid (b = w.heap.size) := ⟨_, rfl⟩
  rw [← unhide hb1] at R ⊢
  obtain ⟨c0, c1, c2⟩ := headsC (unhide R)
  have d0 := row1 (unhide h).row
  go_wp2_with fail
  go_fit (unhide E _ (unhide h))
  rintro r u ⟨rfl, hu⟩
  rw [hu]
  go_wp2_with fail
  go_ret
  exact ⟨rfl, unhide HB⟩

set_option maxHeartbeats 4000000 in
set_option maxRecDepth 100000 in
theorem implIndexFuncD_any (X : Nat → Nd) (A : Nat → Na) (ao : Option Addr) (n cp : Nat) (hn : n ≤ 1048576) (B b8 : Nat) (pu : Option Addr) (m cu : Nat) (f : Nat → Int) (hm : m ≤ 1048576) (w : World) (h : HU w B b8 pu m cu f) (P : ∀ i, i < n → NrAt w ao i (X i) (A i)) :
    Calls Tryz.prog 63 #[.slice ao n cp, .func (.func 58) #[] #[.pointer (some ⟨b8, 0, none⟩)]] w fun r w' => r = .returned (.int .i64 (firstQ (fun k => hasB f m (X k).id) n)) ∧ Below w.heap.size w w' := by
  obtain ⟨q, hq⟩ : ∃ q : Nat → Bool, Hid (q = fun k => hasB f m (X k).id) := ⟨_, rfl⟩
  have hqk : Hid (∀ k, hasB f m (X k).id = q k) := fun k => by rw [unhide hq]
  rw [← unhide hq]
  have hno : Hid ((∀ j, j < n → q j = false) → firstQ q n = -1) := fq_none
  have hyes : Hid (∀ k, (∀ j, j < k → q j = false) → q k = true → k < n → firstQ q n = (k : Int)) := fun k h1 h2 h3 => fq_at h1 h2 h3
  generalize firstQ q n = Z at hno hyes ⊢
  replace P := hide P
  replace h := hide h
  go_enter Tryz.func63, Tryz.ntmps63
  go_upto_region 2 with fail
  go_loopw [8] (fun i u => ∃ k : Nat, k ≤ n ∧ i = .int .i64 (k : Int) ∧ Hid (Below w.heap.size w u) ∧ Hid (∀ j, j < k → q j = false)) (fun i _ => n - (intOf i).toNat)
  case atStart => exact ⟨0, Nat.zero_le _, rfl, Below.refl _ _, fun j hj => absurd hj (by omega)⟩
  case round =>
    obtain ⟨k, hk, rfl, HB, HK⟩ := hrel
    by_cases hkn : k < n
    · have hki : (k : Int) < (n : Int) := by omega
      have HP := hide ((unhide P k hkn).next (unhide HB))
      have E := hide (implDrop1_any (X k) (A k) B b8 pu m cu f hm wr ((unhide h).next (unhide HB)))
      rw [unhide hqk k] at E
      obtain ⟨xx, hxx⟩ : ∃ z, Hid (X k = z) := ⟨_, rfl⟩
      obtain ⟨ss, hss⟩ : ∃ z, Hid (A k = z) := ⟨_, rfl⟩
      rw [unhide hxx] at HP E
      rw [unhide hss] at HP E
      obtain ⟨b, o, hao, hrg⟩ := (unhide HP).range
      replace hrg := hide hrg
      subst hao
      go_wp2_with (refine load_node rfl _ rfl b (o + k * 31) rfl xx ss (unhide hrg) ?_)
      go_fit (unhide E)
      rintro r u1 ⟨rfl, hb⟩
      replace HB := hide (below_two (unhide HB) hb)
      clear hb E hrg HP
      cases hx : q k with
      | true =>
        have hX := hide (unhide hyes k (unhide HK) hx hkn)
        clear hx
        go_wp2_with fail
        go_ret
        exact ⟨by rw [unhide hX]; rfl, unhide HB⟩
      | false =>
        have HK2 : Hid (∀ j, j < k + 1 → q j = false) := fun j hj => by
          by_cases e : j = k
          · subst e; exact hx
          · exact unhide HK j (by omega)
        clear hx
        go_wp2_with fail
        go_roundw
        case rel => exact ⟨k + 1, by omega, by go_num, HB, HK2⟩
        case measure => simp [intOf]; omega
    · have hke : k = n := by omega
      subst hke
      have hki : ¬ (k : Int) < (k : Int) := by omega
      have hX := hide (unhide hno (unhide HK))
      go_wp2_with fail
      go_ret
      exact ⟨by rw [unhide hX]; rfl, unhide HB⟩

/-- The zeros that clear writes. -/
def zerosN (n : Nat) : List Value := (Builtin.zeroCells ndZ n).toList
theorem zeros_len (n : Nat) : (zerosN n).length = n * 31 := by unfold zerosN Builtin.zeroCells; simp [ndZ]
theorem nd_zero (w : World) : (zeroValue 41).run Tryz.prog w = .ok (.agg ndZ) w := by kernel_rfl
theorem zeros_one (n : Nat) : ∀ v ∈ zerosN n, v.oneCell' = true := by
  have hz : ∀ v ∈ ndZ, v.oneCell' = true := by
    have : ndZ.all (·.oneCell') = true := by unfold ndZ; simp [Value.oneCell']
    exact Array.all_eq_true'.1 this
  intro v hv
  unfold zerosN Builtin.zeroCells at hv
  simp at hv
  obtain ⟨i, hi, rfl⟩ := hv
  have hlt : i % ndZ.size < ndZ.size := Nat.mod_lt _ (show 0 < 31 by decide)
  rw [getElem!_pos ndZ (i % ndZ.size) hlt]
  exact hz _ (Array.getElem_mem hlt)
theorem run_clear_nodes (w : World) (ty : TypeId) (b o n c : Nat) (hn : 0 < n) (ht : w.there b o (n * 31)) :
    (Builtin.clear_ #[24] ty #[.slice (some ⟨b, o, none⟩) n c]).run Tryz.prog w = .ok (.tuple #[]) (w.setCells b o (zerosN n)) := by
  have hst := run_storeCells_cells (P := Tryz.prog) b o (zerosN n) 0 w (by rw [zeros_len]; exact fun j hj => (ht j hj).1) (by rw [zeros_len]; exact fun j hj => (ht j hj).2) (zeros_one n)
  simp only [Nat.add_zero] at hst
  obtain ⟨m, rfl⟩ : ∃ m, n = m + 1 := ⟨n - 1, by omega⟩
  have hzc : (Builtin.zeroCells (Value.agg #[.int .i64 0, .int .i64 0, .bool false, .int .i64 0, .int .i64 0, .int .i64 0, .int .i64 0, .int .i64 0, .int .i64 0, .slice none 0 0, .slice none 0 0, .bool false, .int .i64 0, .slice none 0 0, .int .i64 0, .int .i64 0, .int .i64 0, .int .i64 0, .int .i64 0, .int .i64 0, .int .i64 0, .int .i64 0, .int .i64 0, .int .i64 0, .int .i64 0, .int .i64 0, .int .i64 0, .int .i64 0, .int .i64 0, .slice none 0 0, .slice none 0 0]).cells (m + 1)).toList = zerosN (m + 1) := rfl
  simp [Builtin.clear_, run_underlying Tryz.underlying24]
  rw [hzc, hst]
  rfl
theorem wpList_clear_nodes {ops : Array Oper} {rest : List Oper} {oo : Oper} {a : Act} {Q : Exit → Act → World → Prop} {w : World} (hgd : oo.guard = none) (x : Operand) (ho : oo.op = .call { callee := .builtin .clear, args := #[x], argTypes := #[24] })
    (b o n c : Nat) (hx : a.eval x = .slice (some ⟨b, o, none⟩) n c) (hn : 0 < n) (ht : w.there b o (n * 31))
    (h : wpList Tryz.prog ops Q rest (a.put oo.dst (.tuple #[])) (w.setCells b o (zerosN n))) : wpList Tryz.prog ops Q (oo :: rest) a w := by
  refine wpList_plain hgd fun K hK => ?_
  have hrun := run_clear_nodes w oo.type b o n c hn ht
  unfold Oper.wp
  simp [execOp, ho, resolve, invoke, builtin, hx, hrun, Result.andThen]
  exact hK _ _ h
end Go.Proofs.YtmafopckplpajaaGreatDoor

/-
  The program's slices.DeleteFunc over nodes.
-/
namespace Go.Proofs.YtmafopckplpajaaGreatDoor
open Go.RowKit
set_option linter.unusedVariables false

theorem keep_all {q : Nat → Bool} : ∀ {k : Nat}, (∀ j, j < k → q j = false) → keepI q k = List.range k
  | 0, _ => rfl
  | k + 1, h => by rw [keep_no (h k (by omega)), keep_all (fun j hj => h j (by omega)), List.range_succ]
theorem keep_less {q : Nat → Bool} : ∀ {n i : Nat}, i < n → q i = true → (keepI q n).length < n
  | 0, _, h, _ => absurd h (by omega)
  | n + 1, i, h, hq => by
    by_cases e : i = n
    · subst e
      rw [keep_yes hq]
      have := keep_le q i
      omega
    · have := keep_less (n := n) (i := i) (by omega) hq
      unfold keepI
      split
      · omega
      · simp; omega
/-- While nodes are taken out of a row: the kept ones of the first j stand at its begin, those from j on where they were. -/
structure DelS (u : World) (base T g n c : Nat) (X : Nat → Nd) (A : Nat → Na) (q : Nat → Bool) (j : Nat) : Prop where
  row : ∃ ys, u.ownsRow base 41 31 (.slice (some ⟨g, 0, none⟩) n c) n ys ∧ NsAt ys (pickF X (keepI q j)) (pickF A (keepI q j)) (keepI q j).length ∧ (∀ t, j ≤ t → t < n → ∀ m v, (ndC (X t) (A t))[m]? = some v → ys[t * 31 + m]? = some v)
  own : ∀ t, t < n → ∀ l, l < 5 → OwnL u base (X t) (A t) l
  apt : Apt T (.slice (some ⟨g, 0, none⟩) n c) n (fun t l => lvl (X t) (A t) l)
theorem DelS.next {u u' : World} {base T g n c j : Nat} {X : Nat → Nd} {A : Nat → Na} {q : Nat → Bool} (h : DelS u base T g n c X A q j) (hb : Below u.heap.size u u') : DelS u' base T g n c X A q j :=
  let ⟨ys, h1, h2, h3⟩ := h.row; ⟨⟨ys, own_below h1 hb, h2, h3⟩, fun t ht l hl => (h.own t ht l hl).next hb, h.apt⟩
theorem SG.del {u : World} {base T g n c k : Nat} {X : Nat → Nd} {A : Nat → Na} {q : Nat → Bool} (h : SG u base T (some ⟨g, 0, none⟩) n c X A) (hk : k < n) (hq : q k = true) (h0 : ∀ j, j < k → q j = false) : DelS u base T g n c X A q (k + 1) ∧ (keepI q (k + 1)).length = k := by
  obtain ⟨ys, h1, h2⟩ := h.row
  have e : keepI q (k + 1) = List.range k := by rw [keep_yes hq, keep_all h0]
  refine ⟨⟨⟨ys, h1, ?_, fun t _ ht m v hv => h2 t ht m v hv⟩, h.own, h.apt⟩, by rw [e]; simp⟩
  rw [e]
  intro j hj m v hv
  rw [List.length_range] at hj
  rw [pickF_at X _ (by simpa using hj), pickF_at A _ (by simpa using hj)] at hv
  simp only [List.getElem_range] at hv
  exact h2 j (by omega) m v hv
theorem DelS.range {u : World} {base T g n c j : Nat} {X : Nat → Nd} {A : Nat → Na} {q : Nat → Bool} (h : DelS u base T g n c X A q j) (hj : j < n) : u.rangeAt g (j * 31) (ndC (X j) (A j)).toList := by
  obtain ⟨ys, h1, _, h3⟩ := h.row
  intro m v hv
  rw [Array.getElem?_toList] at hv
  have hm : m < 31 := by have := (Array.getElem?_eq_some_iff.1 hv).1; rwa [ndC_size] at this
  rw [h1.cellAt _ (by omega)]
  exact h3 j (Nat.le_refl _) hj m v hv
theorem DelS.there {u : World} {base T g n c j t : Nat} {X : Nat → Nd} {A : Nat → Na} {q : Nat → Bool} (h : DelS u base T g n c X A q j) (ht : t < n) : u.there g (t * 31) 31 := let ⟨_, h1, _⟩ := h.row; own_there h1 ht
theorem DelS.skip {u : World} {base T g n c j : Nat} {X : Nat → Nd} {A : Nat → Na} {q : Nat → Bool} (h : DelS u base T g n c X A q j) (hq : q j = true) : DelS u base T g n c X A q (j + 1) := by
  obtain ⟨ys, h1, h2, h3⟩ := h.row
  exact ⟨⟨ys, h1, by rw [keep_yes hq]; exact h2, fun t ht => h3 t (by omega)⟩, h.own, h.apt⟩
theorem DelS.keep {u : World} {base T g n c j : Nat} {X : Nat → Nd} {A : Nat → Na} {q : Nat → Bool} (h : DelS u base T g n c X A q j) (hj : j < n) (hq : q j = false) : DelS (u.setCells g ((keepI q j).length * 31) (ndC (X j) (A j)).toList) base T g n c X A q (j + 1) := by
  obtain ⟨ys, h1, h2, h3⟩ := h.row
  have hle := keep_le q j
  have hz : (ndC (X j) (A j)).toList.length = 31 := rfl
  have hg := sets_grown g (ndC (X j) (A j)).toList u ((keepI q j).length * 31)
  have hl := h1.1
  refine ⟨⟨_, own_setMany _ h1, ?_, fun t ht hn m v hv => ?_⟩, fun t ht l hl => (h.own t ht l hl).kept hg ((h.own t ht l hl).off h1), h.apt⟩
  · rw [keep_no hq]
    intro t ht m v hv
    have hm : m < 31 := by have := (Array.getElem?_eq_some_iff.1 hv).1; rwa [ndC_size] at this
    have ht' : t < (keepI q j).length + 1 := by simpa using ht
    rw [← pickF_snoc X _ j ht', ← pickF_snoc A _ j ht'] at hv
    by_cases e : t = (keepI q j).length
    · subst e
      rw [upd_at, upd_at] at hv
      rw [setL_in _ _ _ _ (by rw [hz]; omega) (by rw [hz]; exact hm), Array.getElem?_toList]
      exact hv
    · rw [upd_ne _ _ e, upd_ne _ _ e] at hv
      rw [setL_out _ _ _ _ (.inl (by omega))]
      exact h2 t (by omega) m v hv
  · have hm : m < 31 := by have := (Array.getElem?_eq_some_iff.1 hv).1; rwa [ndC_size] at this
    rw [setL_out _ _ _ _ (.inr (by rw [hz]; omega))]
    exact h3 t (by omega) hn m v hv
/-- The first m elements of a row of one's own. -/
theorem own_cut {w : World} {base e s g n m c : Nat} {xs : List Value} (h : w.ownsRow base e s (.slice (some ⟨g, 0, none⟩) n c) n xs) (hm : m ≤ n) : w.ownsRow base e s (.slice (some ⟨g, 0, none⟩) m c) m (xs.take (m * s)) := by
  have hl := h.1
  obtain ⟨_, h2 | ⟨g', cap, cur, hv, h3, h4, h5, h6, h7, h8⟩⟩ := h
  · cases h2.1
  · cases hv
    have hms : m * s ≤ n * s := Nat.mul_le_mul_right _ hm
    refine ⟨by rw [List.length_take, hl]; exact Nat.min_eq_left hms, .inr ⟨g, c, cur, rfl, h3, h4, Nat.le_trans hm h5, h6, h7, ?_⟩⟩
    rw [← h8, List.take_take, Nat.min_eq_left hms]
theorem DelS.fin {u : World} {base T g n c : Nat} {X : Nat → Nd} {A : Nat → Na} {q : Nat → Bool} (h : DelS u base T g n c X A q n) (ZZ : List Value) : SG (u.setCells g ((keepI q n).length * 31) ZZ) base T (some ⟨g, 0, none⟩) (keepI q n).length c (pickF X (keepI q n)) (pickF A (keepI q n)) := by
  obtain ⟨ys, h1, h2, _⟩ := h.row
  have hle := keep_le q n
  have hg := sets_grown g ZZ u ((keepI q n).length * 31)
  have h3 := own_cut (own_setMany ZZ (o := (keepI q n).length * 31) h1) hle
  have hix : ∀ j, j < (keepI q n).length → ∃ t, t < n ∧ pickF X (keepI q n) j = X t ∧ pickF A (keepI q n) j = A t ∧ (keepI q n)[j]? = some t := fun j hj => ⟨(keepI q n)[j], (keep_lt q n _ (List.getElem_mem hj)).1, pickF_at X _ hj, pickF_at A _ hj, List.getElem?_eq_getElem hj⟩
  refine ⟨⟨_, h3, fun j hj m v hv => ?_⟩, fun j hj l hl => ?_, fun i j hi hj l m hl hm k e1 e2 => ?_, fun j hj l hl k e => ?_, fun k e => h.apt.row k e⟩
  · have hm : m < 31 := by have := (Array.getElem?_eq_some_iff.1 hv).1; rwa [ndC_size] at this
    rw [List.getElem?_take_of_lt (by omega), setL_out _ _ _ _ (.inl (by omega))]
    exact h2 j hj m v hv
  · obtain ⟨t, ht, e1, e2, _⟩ := hix j hj
    rw [e1, e2]
    exact (h.own t ht l hl).kept hg ((h.own t ht l hl).off h1)
  · obtain ⟨t, ht, a1, a2, a3⟩ := hix i hi
    obtain ⟨t', ht', b1, b2, b3⟩ := hix j hj
    rw [a1, a2] at e1
    rw [b1, b2] at e2
    obtain ⟨ett, el⟩ := h.apt.inj t t' ht ht' l m hl hm k e1 e2
    subst ett
    refine ⟨?_, el⟩
    have nd := keep_nodup q n
    have ei := (List.getElem?_eq_some_iff.1 a3)
    have ej := (List.getElem?_eq_some_iff.1 b3)
    exact (List.getElem_inj nd).1 (ei.2.trans ej.2.symm)
  · obtain ⟨t, ht, a1, a2, _⟩ := hix j hj
    rw [a1, a2] at e
    exact h.apt.blk t ht l hl k e

set_option maxHeartbeats 8000000 in
set_option maxRecDepth 100000 in
theorem implDeleteFunc_any (X : Nat → Nd) (A : Nat → Na) (g n c base T : Nat) (hn : n ≤ 1048576) (B b8 : Nat) (pu : Option Addr) (m cu : Nat) (f : Nat → Int) (hm : m ≤ 1048576) (w : World) (h : HU w B b8 pu m cu f) (S : SG w base T (some ⟨g, 0, none⟩) n c X A) (q : Nat → Bool) (hq : ∀ k, hasB f m (X k).id = q k) (hex : ∃ k, k < n ∧ q k = true) :
    Calls Tryz.prog 57 #[.slice (some ⟨g, 0, none⟩) n c, .func (.func 58) #[] #[.pointer (some ⟨b8, 0, none⟩)]] w fun r w' => r = .returned (.slice (some ⟨g, 0, none⟩) (keepI q n).length c) ∧ SG w' base T (some ⟨g, 0, none⟩) (keepI q n).length c (pickF X (keepI q n)) (pickF A (keepI q n)) ∧ w.grownBy w' (some g) := by
  have E1 := hide (implIndexFuncD_any X A (some ⟨g, 0, none⟩) n c hn B b8 pu m cu f hm w h S.nodes)
  have E2 := hide (fun k u (hu : HU u B b8 pu m cu f) => implDrop1_any (X k) (A k) B b8 pu m cu f hm u hu)
  obtain ⟨i0, hi0, e0, q0, q1⟩ : ∃ k : Nat, k < n ∧ firstQ (fun k => hasB f m (X k).id) n = k ∧ q k = true ∧ ∀ j, j < k → q j = false := by
    rcases fq_is (q := fun k => hasB f m (X k).id) n with ⟨_, h0⟩ | ⟨k, hk, e, h1, h2⟩
    · obtain ⟨k, hk, e⟩ := hex
      have := h0 k hk
      simp only [hq] at this
      rw [this] at e
      cases e
    · simp only [hq] at h1 h2
      exact ⟨k, hk, e, h1, h2⟩
  rw [e0] at E1
  have hD := hide (S.del hi0 q0 q1)
  have hcap := S.cap.1
  have hless := hide (keep_less hi0 q0)
  have hrow := hide S.row
  replace h := hide h
  replace hq := hide hq
  clear S hex e0 q0 q1
  have hi1 : ¬ (i0 : Int) = -1 := by omega
  go_enter Tryz.func57, Tryz.ntmps57
  go_wp2_with fail
  go_fit (unhide E1)
  rintro r u1 ⟨rfl, hb⟩
  have h1 := hide ((unhide h).next hb)
  have D1 := hide ((unhide hD).1.next hb)
  have hlen := hide (unhide hD).2
  have hgr := hide (show w.grownBy u1 (some g) from ⟨hb.os, hb.tape, hb.output, hb.size, fun k hk _ => hb.block k hk⟩)
  clear hb E1
  have hie : ((i0 : Int) == -1) = false := beq_eq_false_iff_ne.2 (by omega)
  go_upto_region 5 with fail
  go_loopw [5, 6] (fun a b u => ∃ j : Nat, i0 + 1 ≤ j ∧ j ≤ n ∧ a = .int .i64 (((keepI q j).length : Nat) : Int) ∧ b = .int .i64 (j : Int) ∧ Hid (HU u B b8 pu m cu f ∧ DelS u base T g n c X A q j ∧ w.grownBy u (some g))) (fun _ b _ => n - (intOf b).toNat)
  case atStart => exact ⟨i0 + 1, Nat.le_refl _, by omega, by rw [unhide hlen], by go_num, unhide h1, unhide D1, unhide hgr⟩
  case round =>
    clear h1 D1 hgr hlen
    obtain ⟨j, hj0, hj, rfl, rfl, HH⟩ := hrel
    obtain ⟨hU, hS, hgr⟩ := unhide HH
    replace hU := hide hU
    replace hS := hide hS
    replace hgr := hide hgr
    clear HH
    have hle := keep_le q j
    by_cases hlt : j < n
    · have hki : (j : Int) < (n : Int) := by omega
      have hrg := hide ((unhide hS).range hlt)
      obtain ⟨xx, hxx⟩ : ∃ z, Hid (X j = z) := ⟨_, rfl⟩
      obtain ⟨ss, hss⟩ : ∃ z, Hid (A j = z) := ⟨_, rfl⟩
      have E := hide (fun u hu => unhide E2 j u hu)
      rw [unhide hq j] at E
      rw [unhide hxx, unhide hss] at hrg E
      obtain ⟨L, hL⟩ : ∃ L : Nat, Hid (L = (keepI q j).length) := ⟨_, rfl⟩
      rw [← unhide hL] at hle ⊢
      go_upto_region 8 with (first | with_reducible refine load_node rfl _ rfl g (j * 31) rfl xx ss (unhide hrg) ?_ | with_reducible refine store_new rfl _ _ rfl _ xx ss rfl rfl rfl ?_)
      have hb := al1_below wr (.cells (ndC xx ss) 41)
      have R7 := hide (new_row wr (.cells (ndC xx ss) 41))
      replace hU := hide ((unhide hU).next hb)
      replace hS := hide ((unhide hS).next hb)
      have gA := hide (show w.grownBy (wr.alloc (.cells (ndC xx ss) 41)) (some g) from (unhide hgr).trans (World.grownBy_alloc _ _ _))
      clear hb hrg hgr
      generalize wr.alloc (.cells (ndC xx ss) 41) = W7 at R7 hU hS gA ⊢
      generalize wr.heap.size = b7 at R7 ⊢
      go_wp2_with (with_reducible refine load_own rfl _ rfl b7 rfl xx ss 41 (unhide R7) ?_)
      go_fit (unhide E _ (unhide hU))
      rintro r u2 ⟨rfl, hb⟩
      replace R7 := hide (row_next hb (unhide R7))
      replace hU := hide ((unhide hU).next hb)
      replace hS := hide ((unhide hS).next hb)
      replace gA := hide (show w.grownBy u2 (some g) from (unhide gA).trans ⟨hb.os, hb.tape, hb.output, hb.size, fun k hk _ => hb.block k hk⟩)
      clear hb E
      cases hqj : q j with
      | true =>
        have hK := hide (show L = (keepI q (j + 1)).length by rw [keep_yes hqj]; exact unhide hL)
        replace hS := hide ((unhide hS).skip hqj)
        clear hqj
        go_wp2_with fail
        go_roundw
        case rel => exact ⟨j + 1, by omega, by omega, by rw [unhide hK], by go_num, unhide hU, unhide hS, unhide gA⟩
        case measure => simp [intOf]; omega
      | false =>
        have hK := hide (show L + 1 = (keepI q (j + 1)).length by rw [keep_no hqj, List.length_append, ← unhide hL]; rfl)
        have hS2 := hide ((unhide hS).keep hlt hqj)
        rw [unhide hxx, unhide hss, ← unhide hL] at hS2
        have hth := hide ((unhide hS).there (t := L) (by omega))
        obtain ⟨ys, y1, _⟩ := (unhide hS).row
        have gS := sets_grown g (ndC xx ss).toList u2 (L * 31)
        replace hU := hide ((unhide hU).kept y1 gS)
        replace gA := hide ((unhide gA).trans gS)
        have hLn : (L : Int) < (n : Int) := by omega
        have hwL : IntKind.i64.wrap ((L : Int) + 1) = (L : Int) + 1 := IntWalk.i64_in _ (by omega)
        clear y1 gS hS hqj
        go_wp2_with (first | with_reducible refine load_own rfl _ rfl b7 rfl xx ss 41 (unhide R7) ?_ | with_reducible refine store_node rfl _ _ rfl g (L * 31) xx ss rfl rfl (unhide hth) ?_)
        go_roundw
        case rel => exact ⟨j + 1, by omega, by omega, by rw [← unhide hK]; rfl, by go_num, unhide hU, unhide hS2, unhide gA⟩
        case measure => simp [intOf]; omega
    · have hke : j = n := by omega
      subst hke
      have hki : ¬ (j : Int) < (j : Int) := by omega
      obtain ⟨L, hL⟩ : ∃ L : Nat, Hid (L = (keepI q j).length) := ⟨_, rfl⟩
      rw [← unhide hL] at hle ⊢
      rw [← unhide hL] at hless
      have hl1 := unhide hless
      have hth : Hid (wr.there g (L * 31) ((j - L) * 31)) := by
        obtain ⟨ys, y1, _⟩ := (unhide hS).row
        have hy := y1.1
        intro t ht
        refine ⟨?_, y1.frozenAt _⟩
        rw [y1.cellAt _ (by omega), List.getElem?_eq_getElem (by omega)]
        rfl
      have hS2 := hide ((unhide hS).fin (zerosN (j - L)))
      rw [← unhide hL] at hS2
      have gA := hide ((unhide hgr).trans (sets_grown g (zerosN (j - L)) wr (L * 31)))
      clear hS hgr hU
      have hL0 : ¬ (L : Int) < 0 := by omega
      have hLj : ¬ (j : Int) < (L : Int) := by omega
      have hLc : ¬ (c : Int) < (L : Int) := by omega
      have hjc : ¬ (c : Int) < (j : Int) := by omega
      have t1 : ((L : Int)).toNat = L := by omega
      go_wp2_with (refine wpList_clear_nodes rfl _ rfl g (L * 31) (j - L) (c - L) rfl (by omega) (unhide hth) ?_)
      go_ret
      exact ⟨by rw [← unhide hL]; rfl, by rw [← unhide hL]; exact unhide hS2, unhide gA⟩
end Go.Proofs.YtmafopckplpajaaGreatDoor

/-
  The program's CreateNode. (By changeb.py.)
-/
namespace Go.Proofs.YtmafopckplpajaaGreatDoor
open Go.RowKit
set_option linter.unusedVariables false

set_option maxHeartbeats 16000000 in
set_option maxRecDepth 100000 in
theorem implCreateNode_any (X : Nat → Nd) (A : Nat → Na) (ao : Option Addr) (n cp : Nat) (hn : n ≤ 1048576) (hc : n ≤ cp) (hao : ao = none → cp = 0) (hs : ∀ i, i < n → (X i).Small) (hk : ∀ i, i < n → Caps (X i) (A i)) (hw : Wf X n) (x : Nd) (s : Na) (hx : x.Small) (hxc : Caps x s) (w1 : (Lit.int .i64 x.id).wf = true) (w2 : (Lit.int .i64 x.par).wf = true) (w : World) (P : ∀ i, i < n → NrAt w ao i (X i) (A i)) (H : NdIn w x s) (hg : ErrT w) :
    Calls Tryz.prog 12 #[.agg #[.slice ao n cp], .agg (ndC x s)] w fun r w' => ChRes w r w' (createC X n x) (createN X n x) (createX X n x) := by
  have EC := hide (fun u (hu : Below w.heap.size w u) => implSceneCopy_any X A ao n cp (by omega) hc hao hs hk u (fun i hi => (P i hi).next hu))
  have EM := hide (fun u (hu : Below w.heap.size w u) => implMayCreate_any X A ao n cp (by omega) hs hw x s hx w1 w2 u (fun i hi => (P i hi).next hu) (H.next hu))
  have EN := hide (fun u (hu : Below w.heap.size w u) => implNodeCopy_any x s hx hxc u (H.next hu))
  have EK := hide (implCodeOf_any (createC X n x))
  replace P := hide P
  replace H := hide H
  replace hg := hide hg
  have l0 := hide (show 0 < w.heap.size by
    have h := unhide hg
    unfold ErrT at h
    rcases Nat.eq_zero_or_pos w.heap.size with h0 | h'
    · simp [World.cell?, h0] at h
    · exact h')
  clear hs hk hw hx hxc
  have hM0 := hide (show createC X n x ≠ 0 → createN X n x = n ∧ createX X n x = X from fun h => ⟨if_neg h, if_neg h⟩)
  have hM1 := hide (show createC X n x = 0 → createN X n x = n + 1 ∧ createX X n x = upd X n x from fun h => ⟨if_pos h, if_pos h⟩)
  generalize createN X n x = M at hM0 hM1 ⊢
  generalize createX X n x = Y at hM0 hM1 ⊢
  generalize createC X n x = cc at hM0 hM1 EM EK ⊢
  go_enter Tryz.func12, Tryz.ntmps12
  go_upto_region 1 with fail
  have R1 := hide (al3_0 w (.cells #[.slice ao n cp] 26) (.cells (ndC x s) 41) (.cells #[.slice none 0 0] 26))
  have R2 := hide (al3_1 w (.cells #[.slice ao n cp] 26) (.cells (ndC x s) 41) (.cells #[.slice none 0 0] 26))
  have R4 := hide (al3_2 w (.cells #[.slice ao n cp] 26) (.cells (ndC x s) 41) (.cells #[.slice none 0 0] 26))
  have HB := hide (al3_below w (.cells #[.slice ao n cp] 26) (.cells (ndC x s) 41) (.cells #[.slice none 0 0] 26))
  obtain ⟨b4, hb4⟩ : ∃ b, Hid (b = w.heap.size + 1 + 1) := ⟨_, rfl⟩
  obtain ⟨b2, hb2⟩ : ∃ b, Hid (b = w.heap.size + 1) := ⟨_, rfl⟩
  obtain ⟨b1, hb1⟩ : ∃ b, Hid (b = w.heap.size) := ⟨_, rfl⟩
  rw [← unhide hb4] at R4
  rw [← unhide hb2] at R2
  rw [← unhide hb1] at R1
  rw [← unhide hb4, ← unhide hb2, ← unhide hb1]
  have lb := hide (show w.heap.size ≤ b1 ∧ b1 < b2 ∧ b2 < b4 by rw [unhide hb4, unhide hb2, unhide hb1]; omega)
  generalize ((w.alloc (.cells #[.slice ao n cp] 26)).alloc (.cells (ndC x s) 41)).alloc (.cells #[.slice none 0 0] 26) = W at R1 R2 R4 HB ⊢
  clear hb1 hb2 hb4
  -- the copy
  have c0 := row1 (unhide R1)
  obtain ⟨B0, hB0⟩ : ∃ B, Hid (B = W.heap.size) := ⟨_, rfl⟩
  have l4 := hide (show b4 < B0 by rw [unhide hB0]; exact heap_lt (unhide R4))
  go_wp2_with fail
  go_fit (unhide EC _ (unhide HB))
  rintro r u1 ⟨p, c, A', rfl, SGk, hb⟩
  have SGk := hide (show SG u1 B0 u1.heap.size p n c X A' by rw [unhide hB0]; exact SGk)
  replace R1 := hide (row_next hb (unhide R1))
  replace R2 := hide (row_next hb (unhide R2))
  replace R4 := hide (row_next hb (unhide R4))
  replace HB := hide (below_two (unhide HB) hb)
  have lB := hide (show B0 ≤ u1.heap.size by rw [unhide hB0]; exact hb.size)
  clear hb c0
  go_upto_region 2 with fail
  have R6 := hide (new_row u1 (.cells #[.slice p n c] 26))
  have hb := al1_below u1 (.cells #[.slice p n c] 26)
  replace R1 := hide (row_next hb (unhide R1))
  replace R2 := hide (row_next hb (unhide R2))
  replace R4 := hide (row_next hb (unhide R4))
  replace HB := hide (below_two (unhide HB) hb)
  replace SGk := hide ((unhide SGk).next hb)
  have lT := hide (show u1.heap.size ≤ (u1.alloc (.cells #[.slice p n c] 26)).heap.size from hb.size)
  clear hb
  generalize u1.alloc (.cells #[.slice p n c] 26) = U at R1 R2 R4 R6 HB SGk lT ⊢
  generalize u1.heap.size = b6 at R6 SGk lB lT ⊢
  have lR := hide (show w.heap.size ≤ b1 ∧ b1 < b2 ∧ b2 < b4 ∧ b4 < B0 ∧ B0 ≤ b6 by have := unhide lb; have := unhide l4; have := unhide lB; omega)
  have lB0 := hide (show w.heap.size ≤ B0 by have := unhide lR; omega)
  have c0 := row1 (unhide R1)
  have F := hide (unhide EM _ (unhide HB))
  go_wp2_with (refine load_own rfl _ rfl b2 rfl x s 41 (unhide R2) ?_)
  go_fit (unhide F)
  rintro r u2 ⟨rfl, hb⟩
  replace R1 := hide (row_next hb (unhide R1))
  replace R2 := hide (row_next hb (unhide R2))
  replace R4 := hide (row_next hb (unhide R4))
  replace R6 := hide (row_next hb (unhide R6))
  replace HB := hide (below_two (unhide HB) hb)
  replace SGk := hide ((unhide SGk).next hb)
  replace lT := hide (Nat.le_trans (unhide lT) hb.size)
  have ET := hide ((unhide hg).next (unhide HB))
  clear hb c0 F EM EC
  by_cases hcc : cc = 0
  rotate_left
  · skip
    rw [errV_is hcc]
    rw [errV_is hcc] at EK
    clear R2
    have SGf := hide (show SG u2 B0 u2.heap.size p n c X A' from (unhide SGk).high (unhide lT))
    clear SGk
    go_upto_region 5 with fail
    generalize u2 = WF at R1 R4 R6 HB SGf ET ⊢
    refine wp_region_held_drew (S := (fun u => u.cell? ⟨b6, 0, none⟩ = some (.slice p n c))) (by kernel_rfl) ?_ (fun hHeld => ?_)
    · exact row1 (unhide R6)
    have hdr := hide (show Below WF.heap.size WF WF.drew from (Below.refl _ _).drew)
    replace R1 := hide (row_next (unhide hdr) (unhide R1))
    replace R4 := hide (row_next (unhide hdr) (unhide R4))
    replace R6 := hide (row_next (unhide hdr) (unhide R6))
    replace HB := hide (below_two (unhide HB) (unhide hdr))
    replace SGf := hide (show SG WF.drew B0 WF.drew.heap.size p n c X A' from (unhide SGf).next (unhide hdr))
    replace ET := hide ((unhide ET).next (unhide hdr))
    clear hdr
    generalize WF.drew = VF at R1 R4 R6 HB SGf ET hHeld ⊢
    refine wpAnyH_take (i := 0) (oi := { dst := some 22, op := Op.load 26 (Operand.tmp 6), type := 26, pos := "l16_change.go:32", after := #[], guard := none }) (v := ?_) rfl (by kernel_rfl) (by kernel_rfl) (by kernel_rfl) (fun _ _ _ h => h) (Or.inl ⟨by rfl, ?_⟩) (by assumption) ?_
    rotate_left
    · intro w hSw; (try dsimp only at hSw); go_simp <;> with_reducible rfl
    try simp only [Act.put, List.setIfInBounds_toArray, List.set_cons_zero, List.set_cons_succ]
    refine wpAnyH_take (i := 1) (oi := { dst := some 23, op := Op.move (Operand.tmp 7), type := 84, pos := "l16_change.go:32", after := #[], guard := none }) (v := ?_) rfl (by kernel_rfl) (by kernel_rfl) (by kernel_rfl) (fun _ _ _ h => h) (Or.inl ⟨by rfl, ?_⟩) (by assumption) ?_
    rotate_left
    · intro w hSw; (try dsimp only at hSw); go_simp <;> with_reducible rfl
    try simp only [Act.put, List.setIfInBounds_toArray, List.set_cons_zero, List.set_cons_succ]
    refine wpAnyH_ready (rs := [2]) (by kernel_rfl) (by simp) ?_
    refine AllReadyH.cons (o := { dst := some 24, op := Op.call { callee := Callee.value (Operand.func 44), args := #[Operand.tmp 23], argTypes := #[84] }, type := 3, pos := "l16_change.go:32", after := #[{ on := 1, ground := Ground.data }], guard := none }) rfl (fun K hK => ?_) ?_
    · go_simp
      (go_at_call 44; go_fit (unhide EK _ (unhide ET)); rintro r Y1 ⟨rfl, hb⟩)
      replace R1 := hide (row_next hb (unhide R1))
      replace R4 := hide (row_next hb (unhide R4))
      replace R6 := hide (row_next hb (unhide R6))
      replace HB := hide (below_two (unhide HB) hb)
      replace SGf := hide (((unhide SGf).next hb).high hb.size)
      replace ET := hide ((unhide ET).next hb)
      refine hK.out _ _ ?_ (fun hHeld => ?_)
      · exact row1 (unhide R6)
      clear hK K hb
      try simp only [Act.put, List.setIfInBounds_toArray, List.set_cons_zero, List.set_cons_succ]
      refine wpAnyH_ready (rs := [3]) (by kernel_rfl) (by simp) ?_
      refine AllReadyH.cons (o := { dst := none, op := Op.store 26 (Operand.tmp 4) (Operand.tmp 22), type := 0, pos := "l16_change.go:32", after := #[{ on := 0, ground := Ground.data }, { on := 2, ground := Ground.chain }, { on := 0, ground := Ground.phase }, { on := 1, ground := Ground.textOnly Departure.lateStores }, { on := 2, ground := Ground.textOnly Departure.lateStoresUnsure }], guard := none }) rfl (fun K hK => ?_) ?_
      · have cb := row1 (unhide R4)
        have fb := frozen_of_row Y1 b4 0 _ _ (unhide R4)
        go_simp
        have dd := hide (show (Y1.setCell ⟨b4, 0, none⟩ (.slice p n c)).cell? ⟨b4, 0, none⟩ = some (.slice p n c) from World.cell?_setCell_same _ _ _ cb)
        replace SGf := hide (show SG (Y1.setCell ⟨b4, 0, none⟩ (.slice p n c)) B0 (Y1.setCell ⟨b4, 0, none⟩ (.slice p n c)).heap.size p n c X A' by have h := (unhide SGf).setk (j := 0) (v := .slice p n c) (unhide R4); simpa [World.setCell] using h)
        replace R6 := hide (setc_other (b := b4) (j := 0) (v := .slice p n c) (by have := unhide lR; omega) (unhide R6))
        replace HB := hide ((unhide HB).setCell (p := ⟨b4, 0, none⟩) (by have := unhide lR; dsimp only; omega) (.slice p n c))
        replace ET := hide ((unhide ET).low (by have := unhide lR; have := unhide l0; omega) ((Below.refl b4 Y1).setCell (p := ⟨b4, 0, none⟩) (Nat.le_refl _) (.slice p n c)))
        refine hK.out _ _ ?_ (fun hHeld => ?_)
        · exact row1 (unhide R6)
        clear hK K cb fb
        try simp only [Act.put, List.setIfInBounds_toArray, List.set_cons_zero, List.set_cons_succ]
        refine wpAnyH_take (i := 4) (oi := { dst := some 5, op := Op.assign (Operand.tmp 24), type := 3, pos := "l16_change.go:32", after := #[{ on := 2, ground := Ground.data }, { on := 3, ground := Ground.chain }, { on := 0, ground := Ground.phase }, { on := 1, ground := Ground.phase }, { on := 2, ground := Ground.phase }, { on := 3, ground := Ground.phase }], guard := none }) (v := ?_) rfl (by kernel_rfl) (by kernel_rfl) (by kernel_rfl) (fun _ _ _ h => h) (Or.inl ⟨by rfl, ?_⟩) (by assumption) ?_
        rotate_left
        · intro w hSw; (try dsimp only at hSw); go_simp <;> with_reducible rfl
        try simp only [Act.put, List.setIfInBounds_toArray, List.set_cons_zero, List.set_cons_succ]
        refine wpAnyH_done (by kernel_rfl) ?_ _
        have d0 := unhide dd
        go_wp2_with fail
        exact bodyPost_ret (v := .tuple #[.agg #[.slice p n c], .int .i64 cc]) (by simp [results, Tryz.results12, go_sem, d0]) rfl (by obtain ⟨e1, e2⟩ := unhide hM0 hcc; rw [e1, e2]; exact ⟨p, c, A', rfl, (unhide SGf).low (unhide lB0), unhide HB⟩)
      exact AllReadyH.nil
    exact AllReadyH.nil
  · subst hcc
    rw [errV_nil]
    rw [errV_nil] at EK
    have hkn := hide hn
    go_upto_region 4 with fail
    refine wp_region_held_drew (S := (fun u => u.cell? ⟨b1, 0, none⟩ = some (.slice ao n cp) ∧ u.rangeAt b2 0 (ndC x s).toList)) (by kernel_rfl) ?_ (fun hHeld => ?_)
    · exact ⟨row1 (unhide R1), rowRng (unhide R2)⟩
    have hdr := hide (show Below u2.heap.size u2 u2.drew from (Below.refl _ _).drew)
    replace R1 := hide (row_next (unhide hdr) (unhide R1))
    replace R2 := hide (row_next (unhide hdr) (unhide R2))
    replace R4 := hide (row_next (unhide hdr) (unhide R4))
    replace R6 := hide (row_next (unhide hdr) (unhide R6))
    replace HB := hide (below_two (unhide HB) (unhide hdr))
    replace SGk := hide ((unhide SGk).next (unhide hdr))
    clear ET
    replace lT := hide (show b6 ≤ u2.drew.heap.size from unhide lT)
    have lBx := hide (show B0 ≤ u2.drew.heap.size by have := unhide lT; have := unhide lB; omega)
    replace lB := lBx
    have SGlt := hide (show True from trivial)
    clear hdr lBx
    generalize u2.drew = V0 at R1 R2 R4 R6 HB SGk lB lT hHeld ⊢
    refine wpAnyH_take (i := 0) (oi := { dst := some 15, op := Op.fieldAddr 26 (Operand.tmp 6) 0, type := 0, pos := "l16_change.go:30", after := #[], guard := none }) (v := ?_) rfl (by kernel_rfl) (by kernel_rfl) (by kernel_rfl) (fun _ _ _ h => h) (Or.inl ⟨by rfl, ?_⟩) (by assumption) ?_
    rotate_left
    · intro w hSw; (try dsimp only at hSw); go_simp <;> with_reducible rfl
    try simp only [Act.put, List.setIfInBounds_toArray, List.set_cons_zero, List.set_cons_succ]
    refine wpAnyH_take (i := 2) (oi := { dst := some 17, op := Op.load 41 (Operand.tmp 3), type := 41, pos := "l16_change.go:30", after := #[], guard := none }) (v := .agg (ndC x s)) rfl (by kernel_rfl) (by kernel_rfl) (by kernel_rfl) (fun _ _ _ h => h) (yields_node (by rfl) _ rfl b2 (0) rfl x s (fun w h => h.2)) (by assumption) ?_
    try simp only [Act.put, List.setIfInBounds_toArray, List.set_cons_zero, List.set_cons_succ]
    refine wpAnyH_ready (rs := [1, 3]) (by kernel_rfl) (by simp) ?_
    refine AllReadyH.cons (o := { dst := some 16, op := Op.load 24 (Operand.tmp 15), type := 24, pos := "l16_change.go:30", after := #[{ on := 0, ground := Ground.data }], guard := none }) rfl (fun K hK => ?_) ?_
    · have cb := row1 (unhide R6)
      go_simp
      refine hK.out _ _ ?_ (fun hHeld => ?_)
      · exact ⟨row1 (unhide R1), rowRng (unhide R2)⟩
      clear hK K
      try simp only [Act.put, List.setIfInBounds_toArray, List.set_cons_zero, List.set_cons_succ]
      clear cb
      refine wpAnyH_ready (rs := [3]) (by kernel_rfl) (by simp) ?_
      refine AllReadyH.cons (o := { dst := some 18, op := Op.call { callee := Callee.value (Operand.func 43), args := #[Operand.tmp 17], argTypes := #[41] }, type := 41, pos := "l16_change.go:30", after := #[{ on := 2, ground := Ground.data }], guard := none }) rfl (fun K hK => ?_) ?_
      · go_simp
        (go_at_call 43; go_fit (unhide EN _ (unhide HB)); rintro r V1 ⟨s', rfl, hx, hb⟩)
        replace R1 := hide (row_next hb (unhide R1))
        replace R2 := hide (row_next hb (unhide R2))
        replace R4 := hide (row_next hb (unhide R4))
        replace R6 := hide (row_next hb (unhide R6))
        replace HB := hide (below_two (unhide HB) hb)
        refine hK.out _ _ ?_ (fun hHeld => ?_)
        · exact ⟨row1 (unhide R1), rowRng (unhide R2)⟩
        clear hK K
        try simp only [Act.put, List.setIfInBounds_toArray, List.set_cons_zero, List.set_cons_succ]
        replace hx := hide hx
        have bC := hide hb
        clear hb
        refine wpAnyH_ready (rs := [4]) (by kernel_rfl) (by simp) ?_
        refine AllReadyH.cons (o := { dst := some 19, op := Op.buildSlice 24 1 #[(0, Operand.tmp 18)], type := 24, pos := "l16_change.go:30", after := #[{ on := 3, ground := Ground.data }], guard := none }) rfl (fun K hK => ?_) ?_
        · refine step_build_node rfl _ rfl x s' rfl ?_
          replace R1 := hide (row_next (al1_below V1 (.cells (ndC x s') 41)) (unhide R1))
          replace R2 := hide (row_next (al1_below V1 (.cells (ndC x s') 41)) (unhide R2))
          replace R4 := hide (row_next (al1_below V1 (.cells (ndC x s') 41)) (unhide R4))
          replace R6 := hide (row_next (al1_below V1 (.cells (ndC x s') 41)) (unhide R6))
          replace HB := hide (below_two (unhide HB) (al1_below V1 (.cells (ndC x s') 41)))
          refine hK.out _ _ ?_ (fun hHeld => ?_)
          · exact ⟨row1 (unhide R1), rowRng (unhide R2)⟩
          clear hK K
          try simp only [Act.put, List.setIfInBounds_toArray, List.set_cons_zero, List.set_cons_succ]
          refine wpAnyH_ready (rs := [5]) (by kernel_rfl) (by simp) ?_
          refine AllReadyH.cons (o := { dst := some 20, op := Op.call { callee := Callee.builtin Builtin.append, args := #[Operand.tmp 16, Operand.tmp 19], argTypes := #[24, 24] }, type := 24, pos := "l16_change.go:30", after := #[{ on := 1, ground := Ground.data }, { on := 4, ground := Ground.data }, { on := 3, ground := Ground.chain }], guard := none }) rfl (fun K hK => ?_) ?_
          · refine step_append_sg rfl _ _ rfl (unhide SGk) (unhide lT) (unhide lB) (unhide bC) (unhide hx) (by have := unhide hkn; omega) rfl rfl ?_
            intro p' c' V2 SGn g6
            replace R1 := hide ((g6.block b1 (heap_lt (unhide R1)) (fun e => by obtain ⟨ys, y1, _⟩ := (unhide SGk).row; have := (y1.lt b1 e.symm).1; have := unhide lR; omega)).trans (unhide R1))
            replace R2 := hide ((g6.block b2 (heap_lt (unhide R2)) (fun e => by obtain ⟨ys, y1, _⟩ := (unhide SGk).row; have := (y1.lt b2 e.symm).1; have := unhide lR; omega)).trans (unhide R2))
            replace R4 := hide ((g6.block b4 (heap_lt (unhide R4)) (fun e => by obtain ⟨ys, y1, _⟩ := (unhide SGk).row; have := (y1.lt b4 e.symm).1; have := unhide lR; omega)).trans (unhide R4))
            replace R6 := hide ((g6.block b6 (heap_lt (unhide R6)) (fun e => by obtain ⟨ys, y1, _⟩ := (unhide SGk).row; have := (y1.lt b6 e.symm).2; have := unhide SGlt; have := unhide lR; have := (unhide SGk).apt.row b6 e.symm; omega)).trans (unhide R6))
            replace HB := hide ((unhide HB).grown g6 (unhide HB).size (fun q hq => by obtain ⟨ys, y1, _⟩ := (unhide SGk).row; have := (y1.lt q hq).1; have := unhide lR; omega))
            refine hK.out _ _ ?_ (fun hHeld => ?_)
            · exact ⟨row1 (unhide R1), rowRng (unhide R2)⟩
            clear hK K
            try simp only [Act.put, List.setIfInBounds_toArray, List.set_cons_zero, List.set_cons_succ]
            replace SGn := hide SGn
            clear g6
            refine wpAnyH_take (i := 6) (oi := { dst := some 21, op := Op.fieldAddr 26 (Operand.tmp 6) 0, type := 0, pos := "l16_change.go:30", after := #[{ on := 0, ground := Ground.phase }, { on := 1, ground := Ground.phase }, { on := 2, ground := Ground.phase }, { on := 3, ground := Ground.phase }, { on := 4, ground := Ground.phase }, { on := 5, ground := Ground.phase }], guard := none }) (v := ?_) rfl (by kernel_rfl) (by kernel_rfl) (by kernel_rfl) (fun _ _ _ h => h) (Or.inl ⟨by rfl, ?_⟩) (by assumption) ?_
            rotate_left
            · intro w hSw; (try dsimp only at hSw); go_simp <;> with_reducible rfl
            try simp only [Act.put, List.setIfInBounds_toArray, List.set_cons_zero, List.set_cons_succ]
            refine wpAnyH_ready (rs := [7]) (by kernel_rfl) (by simp) ?_
            refine AllReadyH.cons (o := { dst := none, op := Op.store 24 (Operand.tmp 21) (Operand.tmp 20), type := 0, pos := "l16_change.go:30", after := #[{ on := 6, ground := Ground.data }, { on := 5, ground := Ground.data }, { on := 5, ground := Ground.chain }, { on := 0, ground := Ground.phase }, { on := 1, ground := Ground.phase }, { on := 2, ground := Ground.phase }, { on := 3, ground := Ground.phase }, { on := 4, ground := Ground.phase }, { on := 5, ground := Ground.phase }], guard := none }) rfl (fun K hK => ?_) ?_
            · have cb := row1 (unhide R6)
              have fb := frozen_of_row V2 b6 0 _ _ (unhide R6)
              go_simp
              have R6x := hide (show (V2.setCell ⟨b6, 0, none⟩ (.slice p' (n + 1) c')).heap[b6]? = some (.cells #[(.slice p' (n + 1) c')] 26 (0, 0)) by have := setC (v := (.slice p' (n + 1) c')) (j := 0) (unhide R6); simpa using this)
              replace R1 := hide (setc_other (b := b6) (j := 0) (v := (.slice p' (n + 1) c')) (by have := unhide lR; omega) (unhide R1))
              replace R2 := hide (setc_other (b := b6) (j := 0) (v := (.slice p' (n + 1) c')) (by have := unhide lR; omega) (unhide R2))
              replace R4 := hide (setc_other (b := b6) (j := 0) (v := (.slice p' (n + 1) c')) (by have := unhide lR; omega) (unhide R4))
              have R6o := R6
              replace R6 := R6x
              clear R6x cb fb
              replace HB := hide ((unhide HB).setCell (p := ⟨b6, 0, none⟩) (by have := unhide lR; dsimp only; omega) (.slice p' (n + 1) c'))
              replace SGn := hide (show SG (V2.setCell ⟨b6, 0, none⟩ (.slice p' (n + 1) c')) B0 (V2.setCell ⟨b6, 0, none⟩ (.slice p' (n + 1) c')).heap.size p' (n + 1) c' (upd X n x) (upd A' n s') by have h := (unhide SGn).setk (j := 0) (v := (.slice p' (n + 1) c')) (unhide R6o); simpa [World.setCell] using h)
              clear R6o
              refine hK.out _ _ ?_ (fun hHeld => ?_)
              · exact ⟨row1 (unhide R1), rowRng (unhide R2)⟩
              clear hK K
              try simp only [Act.put, List.setIfInBounds_toArray, List.set_cons_zero, List.set_cons_succ]
              refine wpAnyH_done (by kernel_rfl) ?_ _
              have SGf := hide (show SG (V2.setCell ⟨b6, 0, none⟩ (.slice p' (n + 1) c')) B0 (V2.setCell ⟨b6, 0, none⟩ (.slice p' (n + 1) c')).heap.size p' (n + 1) c' (upd X n x) (upd A' n s') from unhide SGn)
              clear SGn SGk
              have ET := hide (show ErrT (V2.setCell ⟨b6, 0, none⟩ (.slice p' (n + 1) c')) from (unhide hg).next (unhide HB))
              go_upto_region 5 with fail
              generalize (V2.setCell ⟨b6, 0, none⟩ (.slice p' (n + 1) c')) = WF at R1 R4 R6 HB SGf ET ⊢
              clear R2
              refine wp_region_held_drew (S := (fun u => u.cell? ⟨b6, 0, none⟩ = some (.slice p' (n + 1) c'))) (by kernel_rfl) ?_ (fun hHeld => ?_)
              · exact row1 (unhide R6)
              have hdr := hide (show Below WF.heap.size WF WF.drew from (Below.refl _ _).drew)
              replace R1 := hide (row_next (unhide hdr) (unhide R1))
              replace R4 := hide (row_next (unhide hdr) (unhide R4))
              replace R6 := hide (row_next (unhide hdr) (unhide R6))
              replace HB := hide (below_two (unhide HB) (unhide hdr))
              replace SGf := hide (show SG WF.drew B0 WF.drew.heap.size p' (n + 1) c' (upd X n x) (upd A' n s') from (unhide SGf).next (unhide hdr))
              replace ET := hide ((unhide ET).next (unhide hdr))
              clear hdr
              generalize WF.drew = VF at R1 R4 R6 HB SGf ET hHeld ⊢
              refine wpAnyH_take (i := 0) (oi := { dst := some 22, op := Op.load 26 (Operand.tmp 6), type := 26, pos := "l16_change.go:32", after := #[], guard := none }) (v := ?_) rfl (by kernel_rfl) (by kernel_rfl) (by kernel_rfl) (fun _ _ _ h => h) (Or.inl ⟨by rfl, ?_⟩) (by assumption) ?_
              rotate_left
              · intro w hSw; (try dsimp only at hSw); go_simp <;> with_reducible rfl
              try simp only [Act.put, List.setIfInBounds_toArray, List.set_cons_zero, List.set_cons_succ]
              refine wpAnyH_take (i := 1) (oi := { dst := some 23, op := Op.move (Operand.tmp 7), type := 84, pos := "l16_change.go:32", after := #[], guard := none }) (v := ?_) rfl (by kernel_rfl) (by kernel_rfl) (by kernel_rfl) (fun _ _ _ h => h) (Or.inl ⟨by rfl, ?_⟩) (by assumption) ?_
              rotate_left
              · intro w hSw; (try dsimp only at hSw); go_simp <;> with_reducible rfl
              try simp only [Act.put, List.setIfInBounds_toArray, List.set_cons_zero, List.set_cons_succ]
              refine wpAnyH_ready (rs := [2]) (by kernel_rfl) (by simp) ?_
              refine AllReadyH.cons (o := { dst := some 24, op := Op.call { callee := Callee.value (Operand.func 44), args := #[Operand.tmp 23], argTypes := #[84] }, type := 3, pos := "l16_change.go:32", after := #[{ on := 1, ground := Ground.data }], guard := none }) rfl (fun K hK => ?_) ?_
              · go_simp
                (go_at_call 44; go_fit (unhide EK _ (unhide ET)); rintro r Y1 ⟨rfl, hb⟩)
                replace R1 := hide (row_next hb (unhide R1))
                replace R4 := hide (row_next hb (unhide R4))
                replace R6 := hide (row_next hb (unhide R6))
                replace HB := hide (below_two (unhide HB) hb)
                replace SGf := hide (((unhide SGf).next hb).high hb.size)
                replace ET := hide ((unhide ET).next hb)
                refine hK.out _ _ ?_ (fun hHeld => ?_)
                · exact row1 (unhide R6)
                clear hK K hb
                try simp only [Act.put, List.setIfInBounds_toArray, List.set_cons_zero, List.set_cons_succ]
                refine wpAnyH_ready (rs := [3]) (by kernel_rfl) (by simp) ?_
                refine AllReadyH.cons (o := { dst := none, op := Op.store 26 (Operand.tmp 4) (Operand.tmp 22), type := 0, pos := "l16_change.go:32", after := #[{ on := 0, ground := Ground.data }, { on := 2, ground := Ground.chain }, { on := 0, ground := Ground.phase }, { on := 1, ground := Ground.textOnly Departure.lateStores }, { on := 2, ground := Ground.textOnly Departure.lateStoresUnsure }], guard := none }) rfl (fun K hK => ?_) ?_
                · have cb := row1 (unhide R4)
                  have fb := frozen_of_row Y1 b4 0 _ _ (unhide R4)
                  go_simp
                  have dd := hide (show (Y1.setCell ⟨b4, 0, none⟩ (.slice p' (n + 1) c')).cell? ⟨b4, 0, none⟩ = some (.slice p' (n + 1) c') from World.cell?_setCell_same _ _ _ cb)
                  replace SGf := hide (show SG (Y1.setCell ⟨b4, 0, none⟩ (.slice p' (n + 1) c')) B0 (Y1.setCell ⟨b4, 0, none⟩ (.slice p' (n + 1) c')).heap.size p' (n + 1) c' (upd X n x) (upd A' n s') by have h := (unhide SGf).setk (j := 0) (v := .slice p' (n + 1) c') (unhide R4); simpa [World.setCell] using h)
                  replace R6 := hide (setc_other (b := b4) (j := 0) (v := .slice p' (n + 1) c') (by have := unhide lR; omega) (unhide R6))
                  replace HB := hide ((unhide HB).setCell (p := ⟨b4, 0, none⟩) (by have := unhide lR; dsimp only; omega) (.slice p' (n + 1) c'))
                  replace ET := hide ((unhide ET).low (by have := unhide lR; have := unhide l0; omega) ((Below.refl b4 Y1).setCell (p := ⟨b4, 0, none⟩) (Nat.le_refl _) (.slice p' (n + 1) c')))
                  refine hK.out _ _ ?_ (fun hHeld => ?_)
                  · exact row1 (unhide R6)
                  clear hK K cb fb
                  try simp only [Act.put, List.setIfInBounds_toArray, List.set_cons_zero, List.set_cons_succ]
                  refine wpAnyH_take (i := 4) (oi := { dst := some 5, op := Op.assign (Operand.tmp 24), type := 3, pos := "l16_change.go:32", after := #[{ on := 2, ground := Ground.data }, { on := 3, ground := Ground.chain }, { on := 0, ground := Ground.phase }, { on := 1, ground := Ground.phase }, { on := 2, ground := Ground.phase }, { on := 3, ground := Ground.phase }], guard := none }) (v := ?_) rfl (by kernel_rfl) (by kernel_rfl) (by kernel_rfl) (fun _ _ _ h => h) (Or.inl ⟨by rfl, ?_⟩) (by assumption) ?_
                  rotate_left
                  · intro w hSw; (try dsimp only at hSw); go_simp <;> with_reducible rfl
                  try simp only [Act.put, List.setIfInBounds_toArray, List.set_cons_zero, List.set_cons_succ]
                  refine wpAnyH_done (by kernel_rfl) ?_ _
                  have d0 := unhide dd
                  go_wp2_with fail
                  exact bodyPost_ret (v := .tuple #[.agg #[.slice p' (n + 1) c'], .int .i64 0]) (by simp [results, Tryz.results12, go_sem, d0]) rfl (by obtain ⟨e1, e2⟩ := unhide hM1 (by trivial); rw [e1, e2]; exact ⟨p', c', (upd A' n s'), rfl, (unhide SGf).low (unhide lB0), unhide HB⟩)
                exact AllReadyH.nil
              exact AllReadyH.nil
            exact AllReadyH.nil
          exact AllReadyH.nil
        exact AllReadyH.nil
      exact AllReadyH.nil
    refine AllReadyH.cons (o := { dst := some 18, op := Op.call { callee := Callee.value (Operand.func 43), args := #[Operand.tmp 17], argTypes := #[41] }, type := 41, pos := "l16_change.go:30", after := #[{ on := 2, ground := Ground.data }], guard := none }) rfl (fun K hK => ?_) ?_
    · go_simp
      (go_at_call 43; go_fit (unhide EN _ (unhide HB)); rintro r V3 ⟨s', rfl, hx, hb⟩)
      replace R1 := hide (row_next hb (unhide R1))
      replace R2 := hide (row_next hb (unhide R2))
      replace R4 := hide (row_next hb (unhide R4))
      replace R6 := hide (row_next hb (unhide R6))
      replace HB := hide (below_two (unhide HB) hb)
      refine hK.out _ _ ?_ (fun hHeld => ?_)
      · exact ⟨row1 (unhide R1), rowRng (unhide R2)⟩
      clear hK K
      try simp only [Act.put, List.setIfInBounds_toArray, List.set_cons_zero, List.set_cons_succ]
      replace hx := hide hx
      have bC := hide hb
      clear hb
      refine wpAnyH_ready (rs := [1, 4]) (by kernel_rfl) (by simp) ?_
      refine AllReadyH.cons (o := { dst := some 16, op := Op.load 24 (Operand.tmp 15), type := 24, pos := "l16_change.go:30", after := #[{ on := 0, ground := Ground.data }], guard := none }) rfl (fun K hK => ?_) ?_
      · have cb := row1 (unhide R6)
        go_simp
        refine hK.out _ _ ?_ (fun hHeld => ?_)
        · exact ⟨row1 (unhide R1), rowRng (unhide R2)⟩
        clear hK K
        try simp only [Act.put, List.setIfInBounds_toArray, List.set_cons_zero, List.set_cons_succ]
        clear cb
        refine wpAnyH_ready (rs := [4]) (by kernel_rfl) (by simp) ?_
        refine AllReadyH.cons (o := { dst := some 19, op := Op.buildSlice 24 1 #[(0, Operand.tmp 18)], type := 24, pos := "l16_change.go:30", after := #[{ on := 3, ground := Ground.data }], guard := none }) rfl (fun K hK => ?_) ?_
        · refine step_build_node rfl _ rfl x s' rfl ?_
          replace R1 := hide (row_next (al1_below V3 (.cells (ndC x s') 41)) (unhide R1))
          replace R2 := hide (row_next (al1_below V3 (.cells (ndC x s') 41)) (unhide R2))
          replace R4 := hide (row_next (al1_below V3 (.cells (ndC x s') 41)) (unhide R4))
          replace R6 := hide (row_next (al1_below V3 (.cells (ndC x s') 41)) (unhide R6))
          replace HB := hide (below_two (unhide HB) (al1_below V3 (.cells (ndC x s') 41)))
          refine hK.out _ _ ?_ (fun hHeld => ?_)
          · exact ⟨row1 (unhide R1), rowRng (unhide R2)⟩
          clear hK K
          try simp only [Act.put, List.setIfInBounds_toArray, List.set_cons_zero, List.set_cons_succ]
          refine wpAnyH_ready (rs := [5]) (by kernel_rfl) (by simp) ?_
          refine AllReadyH.cons (o := { dst := some 20, op := Op.call { callee := Callee.builtin Builtin.append, args := #[Operand.tmp 16, Operand.tmp 19], argTypes := #[24, 24] }, type := 24, pos := "l16_change.go:30", after := #[{ on := 1, ground := Ground.data }, { on := 4, ground := Ground.data }, { on := 3, ground := Ground.chain }], guard := none }) rfl (fun K hK => ?_) ?_
          · refine step_append_sg rfl _ _ rfl (unhide SGk) (unhide lT) (unhide lB) (unhide bC) (unhide hx) (by have := unhide hkn; omega) rfl rfl ?_
            intro p' c' V4 SGn g6
            replace R1 := hide ((g6.block b1 (heap_lt (unhide R1)) (fun e => by obtain ⟨ys, y1, _⟩ := (unhide SGk).row; have := (y1.lt b1 e.symm).1; have := unhide lR; omega)).trans (unhide R1))
            replace R2 := hide ((g6.block b2 (heap_lt (unhide R2)) (fun e => by obtain ⟨ys, y1, _⟩ := (unhide SGk).row; have := (y1.lt b2 e.symm).1; have := unhide lR; omega)).trans (unhide R2))
            replace R4 := hide ((g6.block b4 (heap_lt (unhide R4)) (fun e => by obtain ⟨ys, y1, _⟩ := (unhide SGk).row; have := (y1.lt b4 e.symm).1; have := unhide lR; omega)).trans (unhide R4))
            replace R6 := hide ((g6.block b6 (heap_lt (unhide R6)) (fun e => by obtain ⟨ys, y1, _⟩ := (unhide SGk).row; have := (y1.lt b6 e.symm).2; have := unhide SGlt; have := unhide lR; have := (unhide SGk).apt.row b6 e.symm; omega)).trans (unhide R6))
            replace HB := hide ((unhide HB).grown g6 (unhide HB).size (fun q hq => by obtain ⟨ys, y1, _⟩ := (unhide SGk).row; have := (y1.lt q hq).1; have := unhide lR; omega))
            refine hK.out _ _ ?_ (fun hHeld => ?_)
            · exact ⟨row1 (unhide R1), rowRng (unhide R2)⟩
            clear hK K
            try simp only [Act.put, List.setIfInBounds_toArray, List.set_cons_zero, List.set_cons_succ]
            replace SGn := hide SGn
            clear g6
            refine wpAnyH_take (i := 6) (oi := { dst := some 21, op := Op.fieldAddr 26 (Operand.tmp 6) 0, type := 0, pos := "l16_change.go:30", after := #[{ on := 0, ground := Ground.phase }, { on := 1, ground := Ground.phase }, { on := 2, ground := Ground.phase }, { on := 3, ground := Ground.phase }, { on := 4, ground := Ground.phase }, { on := 5, ground := Ground.phase }], guard := none }) (v := ?_) rfl (by kernel_rfl) (by kernel_rfl) (by kernel_rfl) (fun _ _ _ h => h) (Or.inl ⟨by rfl, ?_⟩) (by assumption) ?_
            rotate_left
            · intro w hSw; (try dsimp only at hSw); go_simp <;> with_reducible rfl
            try simp only [Act.put, List.setIfInBounds_toArray, List.set_cons_zero, List.set_cons_succ]
            refine wpAnyH_ready (rs := [7]) (by kernel_rfl) (by simp) ?_
            refine AllReadyH.cons (o := { dst := none, op := Op.store 24 (Operand.tmp 21) (Operand.tmp 20), type := 0, pos := "l16_change.go:30", after := #[{ on := 6, ground := Ground.data }, { on := 5, ground := Ground.data }, { on := 5, ground := Ground.chain }, { on := 0, ground := Ground.phase }, { on := 1, ground := Ground.phase }, { on := 2, ground := Ground.phase }, { on := 3, ground := Ground.phase }, { on := 4, ground := Ground.phase }, { on := 5, ground := Ground.phase }], guard := none }) rfl (fun K hK => ?_) ?_
            · have cb := row1 (unhide R6)
              have fb := frozen_of_row V4 b6 0 _ _ (unhide R6)
              go_simp
              have R6x := hide (show (V4.setCell ⟨b6, 0, none⟩ (.slice p' (n + 1) c')).heap[b6]? = some (.cells #[(.slice p' (n + 1) c')] 26 (0, 0)) by have := setC (v := (.slice p' (n + 1) c')) (j := 0) (unhide R6); simpa using this)
              replace R1 := hide (setc_other (b := b6) (j := 0) (v := (.slice p' (n + 1) c')) (by have := unhide lR; omega) (unhide R1))
              replace R2 := hide (setc_other (b := b6) (j := 0) (v := (.slice p' (n + 1) c')) (by have := unhide lR; omega) (unhide R2))
              replace R4 := hide (setc_other (b := b6) (j := 0) (v := (.slice p' (n + 1) c')) (by have := unhide lR; omega) (unhide R4))
              have R6o := R6
              replace R6 := R6x
              clear R6x cb fb
              replace HB := hide ((unhide HB).setCell (p := ⟨b6, 0, none⟩) (by have := unhide lR; dsimp only; omega) (.slice p' (n + 1) c'))
              replace SGn := hide (show SG (V4.setCell ⟨b6, 0, none⟩ (.slice p' (n + 1) c')) B0 (V4.setCell ⟨b6, 0, none⟩ (.slice p' (n + 1) c')).heap.size p' (n + 1) c' (upd X n x) (upd A' n s') by have h := (unhide SGn).setk (j := 0) (v := (.slice p' (n + 1) c')) (unhide R6o); simpa [World.setCell] using h)
              clear R6o
              refine hK.out _ _ ?_ (fun hHeld => ?_)
              · exact ⟨row1 (unhide R1), rowRng (unhide R2)⟩
              clear hK K
              try simp only [Act.put, List.setIfInBounds_toArray, List.set_cons_zero, List.set_cons_succ]
              refine wpAnyH_done (by kernel_rfl) ?_ _
              have SGf := hide (show SG (V4.setCell ⟨b6, 0, none⟩ (.slice p' (n + 1) c')) B0 (V4.setCell ⟨b6, 0, none⟩ (.slice p' (n + 1) c')).heap.size p' (n + 1) c' (upd X n x) (upd A' n s') from unhide SGn)
              clear SGn SGk
              have ET := hide (show ErrT (V4.setCell ⟨b6, 0, none⟩ (.slice p' (n + 1) c')) from (unhide hg).next (unhide HB))
              go_upto_region 5 with fail
              generalize (V4.setCell ⟨b6, 0, none⟩ (.slice p' (n + 1) c')) = WF at R1 R4 R6 HB SGf ET ⊢
              clear R2
              refine wp_region_held_drew (S := (fun u => u.cell? ⟨b6, 0, none⟩ = some (.slice p' (n + 1) c'))) (by kernel_rfl) ?_ (fun hHeld => ?_)
              · exact row1 (unhide R6)
              have hdr := hide (show Below WF.heap.size WF WF.drew from (Below.refl _ _).drew)
              replace R1 := hide (row_next (unhide hdr) (unhide R1))
              replace R4 := hide (row_next (unhide hdr) (unhide R4))
              replace R6 := hide (row_next (unhide hdr) (unhide R6))
              replace HB := hide (below_two (unhide HB) (unhide hdr))
              replace SGf := hide (show SG WF.drew B0 WF.drew.heap.size p' (n + 1) c' (upd X n x) (upd A' n s') from (unhide SGf).next (unhide hdr))
              replace ET := hide ((unhide ET).next (unhide hdr))
              clear hdr
              generalize WF.drew = VF at R1 R4 R6 HB SGf ET hHeld ⊢
              refine wpAnyH_take (i := 0) (oi := { dst := some 22, op := Op.load 26 (Operand.tmp 6), type := 26, pos := "l16_change.go:32", after := #[], guard := none }) (v := ?_) rfl (by kernel_rfl) (by kernel_rfl) (by kernel_rfl) (fun _ _ _ h => h) (Or.inl ⟨by rfl, ?_⟩) (by assumption) ?_
              rotate_left
              · intro w hSw; (try dsimp only at hSw); go_simp <;> with_reducible rfl
              try simp only [Act.put, List.setIfInBounds_toArray, List.set_cons_zero, List.set_cons_succ]
              refine wpAnyH_take (i := 1) (oi := { dst := some 23, op := Op.move (Operand.tmp 7), type := 84, pos := "l16_change.go:32", after := #[], guard := none }) (v := ?_) rfl (by kernel_rfl) (by kernel_rfl) (by kernel_rfl) (fun _ _ _ h => h) (Or.inl ⟨by rfl, ?_⟩) (by assumption) ?_
              rotate_left
              · intro w hSw; (try dsimp only at hSw); go_simp <;> with_reducible rfl
              try simp only [Act.put, List.setIfInBounds_toArray, List.set_cons_zero, List.set_cons_succ]
              refine wpAnyH_ready (rs := [2]) (by kernel_rfl) (by simp) ?_
              refine AllReadyH.cons (o := { dst := some 24, op := Op.call { callee := Callee.value (Operand.func 44), args := #[Operand.tmp 23], argTypes := #[84] }, type := 3, pos := "l16_change.go:32", after := #[{ on := 1, ground := Ground.data }], guard := none }) rfl (fun K hK => ?_) ?_
              · go_simp
                (go_at_call 44; go_fit (unhide EK _ (unhide ET)); rintro r Y1 ⟨rfl, hb⟩)
                replace R1 := hide (row_next hb (unhide R1))
                replace R4 := hide (row_next hb (unhide R4))
                replace R6 := hide (row_next hb (unhide R6))
                replace HB := hide (below_two (unhide HB) hb)
                replace SGf := hide (((unhide SGf).next hb).high hb.size)
                replace ET := hide ((unhide ET).next hb)
                refine hK.out _ _ ?_ (fun hHeld => ?_)
                · exact row1 (unhide R6)
                clear hK K hb
                try simp only [Act.put, List.setIfInBounds_toArray, List.set_cons_zero, List.set_cons_succ]
                refine wpAnyH_ready (rs := [3]) (by kernel_rfl) (by simp) ?_
                refine AllReadyH.cons (o := { dst := none, op := Op.store 26 (Operand.tmp 4) (Operand.tmp 22), type := 0, pos := "l16_change.go:32", after := #[{ on := 0, ground := Ground.data }, { on := 2, ground := Ground.chain }, { on := 0, ground := Ground.phase }, { on := 1, ground := Ground.textOnly Departure.lateStores }, { on := 2, ground := Ground.textOnly Departure.lateStoresUnsure }], guard := none }) rfl (fun K hK => ?_) ?_
                · have cb := row1 (unhide R4)
                  have fb := frozen_of_row Y1 b4 0 _ _ (unhide R4)
                  go_simp
                  have dd := hide (show (Y1.setCell ⟨b4, 0, none⟩ (.slice p' (n + 1) c')).cell? ⟨b4, 0, none⟩ = some (.slice p' (n + 1) c') from World.cell?_setCell_same _ _ _ cb)
                  replace SGf := hide (show SG (Y1.setCell ⟨b4, 0, none⟩ (.slice p' (n + 1) c')) B0 (Y1.setCell ⟨b4, 0, none⟩ (.slice p' (n + 1) c')).heap.size p' (n + 1) c' (upd X n x) (upd A' n s') by have h := (unhide SGf).setk (j := 0) (v := .slice p' (n + 1) c') (unhide R4); simpa [World.setCell] using h)
                  replace R6 := hide (setc_other (b := b4) (j := 0) (v := .slice p' (n + 1) c') (by have := unhide lR; omega) (unhide R6))
                  replace HB := hide ((unhide HB).setCell (p := ⟨b4, 0, none⟩) (by have := unhide lR; dsimp only; omega) (.slice p' (n + 1) c'))
                  replace ET := hide ((unhide ET).low (by have := unhide lR; have := unhide l0; omega) ((Below.refl b4 Y1).setCell (p := ⟨b4, 0, none⟩) (Nat.le_refl _) (.slice p' (n + 1) c')))
                  refine hK.out _ _ ?_ (fun hHeld => ?_)
                  · exact row1 (unhide R6)
                  clear hK K cb fb
                  try simp only [Act.put, List.setIfInBounds_toArray, List.set_cons_zero, List.set_cons_succ]
                  refine wpAnyH_take (i := 4) (oi := { dst := some 5, op := Op.assign (Operand.tmp 24), type := 3, pos := "l16_change.go:32", after := #[{ on := 2, ground := Ground.data }, { on := 3, ground := Ground.chain }, { on := 0, ground := Ground.phase }, { on := 1, ground := Ground.phase }, { on := 2, ground := Ground.phase }, { on := 3, ground := Ground.phase }], guard := none }) (v := ?_) rfl (by kernel_rfl) (by kernel_rfl) (by kernel_rfl) (fun _ _ _ h => h) (Or.inl ⟨by rfl, ?_⟩) (by assumption) ?_
                  rotate_left
                  · intro w hSw; (try dsimp only at hSw); go_simp <;> with_reducible rfl
                  try simp only [Act.put, List.setIfInBounds_toArray, List.set_cons_zero, List.set_cons_succ]
                  refine wpAnyH_done (by kernel_rfl) ?_ _
                  have d0 := unhide dd
                  go_wp2_with fail
                  exact bodyPost_ret (v := .tuple #[.agg #[.slice p' (n + 1) c'], .int .i64 0]) (by simp [results, Tryz.results12, go_sem, d0]) rfl (by obtain ⟨e1, e2⟩ := unhide hM1 (by trivial); rw [e1, e2]; exact ⟨p', c', (upd A' n s'), rfl, (unhide SGf).low (unhide lB0), unhide HB⟩)
                exact AllReadyH.nil
              exact AllReadyH.nil
            exact AllReadyH.nil
          exact AllReadyH.nil
        exact AllReadyH.nil
      refine AllReadyH.cons (o := { dst := some 19, op := Op.buildSlice 24 1 #[(0, Operand.tmp 18)], type := 24, pos := "l16_change.go:30", after := #[{ on := 3, ground := Ground.data }], guard := none }) rfl (fun K hK => ?_) ?_
      · refine step_build_node rfl _ rfl x s' rfl ?_
        replace R1 := hide (row_next (al1_below V3 (.cells (ndC x s') 41)) (unhide R1))
        replace R2 := hide (row_next (al1_below V3 (.cells (ndC x s') 41)) (unhide R2))
        replace R4 := hide (row_next (al1_below V3 (.cells (ndC x s') 41)) (unhide R4))
        replace R6 := hide (row_next (al1_below V3 (.cells (ndC x s') 41)) (unhide R6))
        replace HB := hide (below_two (unhide HB) (al1_below V3 (.cells (ndC x s') 41)))
        refine hK.out _ _ ?_ (fun hHeld => ?_)
        · exact ⟨row1 (unhide R1), rowRng (unhide R2)⟩
        clear hK K
        try simp only [Act.put, List.setIfInBounds_toArray, List.set_cons_zero, List.set_cons_succ]
        refine wpAnyH_ready (rs := [1]) (by kernel_rfl) (by simp) ?_
        refine AllReadyH.cons (o := { dst := some 16, op := Op.load 24 (Operand.tmp 15), type := 24, pos := "l16_change.go:30", after := #[{ on := 0, ground := Ground.data }], guard := none }) rfl (fun K hK => ?_) ?_
        · have cb := row1 (unhide R6)
          go_simp
          refine hK.out _ _ ?_ (fun hHeld => ?_)
          · exact ⟨row1 (unhide R1), rowRng (unhide R2)⟩
          clear hK K
          try simp only [Act.put, List.setIfInBounds_toArray, List.set_cons_zero, List.set_cons_succ]
          clear cb
          refine wpAnyH_ready (rs := [5]) (by kernel_rfl) (by simp) ?_
          refine AllReadyH.cons (o := { dst := some 20, op := Op.call { callee := Callee.builtin Builtin.append, args := #[Operand.tmp 16, Operand.tmp 19], argTypes := #[24, 24] }, type := 24, pos := "l16_change.go:30", after := #[{ on := 1, ground := Ground.data }, { on := 4, ground := Ground.data }, { on := 3, ground := Ground.chain }], guard := none }) rfl (fun K hK => ?_) ?_
          · refine step_append_sg rfl _ _ rfl (unhide SGk) (unhide lT) (unhide lB) (unhide bC) (unhide hx) (by have := unhide hkn; omega) rfl rfl ?_
            intro p' c' V5 SGn g6
            replace R1 := hide ((g6.block b1 (heap_lt (unhide R1)) (fun e => by obtain ⟨ys, y1, _⟩ := (unhide SGk).row; have := (y1.lt b1 e.symm).1; have := unhide lR; omega)).trans (unhide R1))
            replace R2 := hide ((g6.block b2 (heap_lt (unhide R2)) (fun e => by obtain ⟨ys, y1, _⟩ := (unhide SGk).row; have := (y1.lt b2 e.symm).1; have := unhide lR; omega)).trans (unhide R2))
            replace R4 := hide ((g6.block b4 (heap_lt (unhide R4)) (fun e => by obtain ⟨ys, y1, _⟩ := (unhide SGk).row; have := (y1.lt b4 e.symm).1; have := unhide lR; omega)).trans (unhide R4))
            replace R6 := hide ((g6.block b6 (heap_lt (unhide R6)) (fun e => by obtain ⟨ys, y1, _⟩ := (unhide SGk).row; have := (y1.lt b6 e.symm).2; have := unhide SGlt; have := unhide lR; have := (unhide SGk).apt.row b6 e.symm; omega)).trans (unhide R6))
            replace HB := hide ((unhide HB).grown g6 (unhide HB).size (fun q hq => by obtain ⟨ys, y1, _⟩ := (unhide SGk).row; have := (y1.lt q hq).1; have := unhide lR; omega))
            refine hK.out _ _ ?_ (fun hHeld => ?_)
            · exact ⟨row1 (unhide R1), rowRng (unhide R2)⟩
            clear hK K
            try simp only [Act.put, List.setIfInBounds_toArray, List.set_cons_zero, List.set_cons_succ]
            replace SGn := hide SGn
            clear g6
            refine wpAnyH_take (i := 6) (oi := { dst := some 21, op := Op.fieldAddr 26 (Operand.tmp 6) 0, type := 0, pos := "l16_change.go:30", after := #[{ on := 0, ground := Ground.phase }, { on := 1, ground := Ground.phase }, { on := 2, ground := Ground.phase }, { on := 3, ground := Ground.phase }, { on := 4, ground := Ground.phase }, { on := 5, ground := Ground.phase }], guard := none }) (v := ?_) rfl (by kernel_rfl) (by kernel_rfl) (by kernel_rfl) (fun _ _ _ h => h) (Or.inl ⟨by rfl, ?_⟩) (by assumption) ?_
            rotate_left
            · intro w hSw; (try dsimp only at hSw); go_simp <;> with_reducible rfl
            try simp only [Act.put, List.setIfInBounds_toArray, List.set_cons_zero, List.set_cons_succ]
            refine wpAnyH_ready (rs := [7]) (by kernel_rfl) (by simp) ?_
            refine AllReadyH.cons (o := { dst := none, op := Op.store 24 (Operand.tmp 21) (Operand.tmp 20), type := 0, pos := "l16_change.go:30", after := #[{ on := 6, ground := Ground.data }, { on := 5, ground := Ground.data }, { on := 5, ground := Ground.chain }, { on := 0, ground := Ground.phase }, { on := 1, ground := Ground.phase }, { on := 2, ground := Ground.phase }, { on := 3, ground := Ground.phase }, { on := 4, ground := Ground.phase }, { on := 5, ground := Ground.phase }], guard := none }) rfl (fun K hK => ?_) ?_
            · have cb := row1 (unhide R6)
              have fb := frozen_of_row V5 b6 0 _ _ (unhide R6)
              go_simp
              have R6x := hide (show (V5.setCell ⟨b6, 0, none⟩ (.slice p' (n + 1) c')).heap[b6]? = some (.cells #[(.slice p' (n + 1) c')] 26 (0, 0)) by have := setC (v := (.slice p' (n + 1) c')) (j := 0) (unhide R6); simpa using this)
              replace R1 := hide (setc_other (b := b6) (j := 0) (v := (.slice p' (n + 1) c')) (by have := unhide lR; omega) (unhide R1))
              replace R2 := hide (setc_other (b := b6) (j := 0) (v := (.slice p' (n + 1) c')) (by have := unhide lR; omega) (unhide R2))
              replace R4 := hide (setc_other (b := b6) (j := 0) (v := (.slice p' (n + 1) c')) (by have := unhide lR; omega) (unhide R4))
              have R6o := R6
              replace R6 := R6x
              clear R6x cb fb
              replace HB := hide ((unhide HB).setCell (p := ⟨b6, 0, none⟩) (by have := unhide lR; dsimp only; omega) (.slice p' (n + 1) c'))
              replace SGn := hide (show SG (V5.setCell ⟨b6, 0, none⟩ (.slice p' (n + 1) c')) B0 (V5.setCell ⟨b6, 0, none⟩ (.slice p' (n + 1) c')).heap.size p' (n + 1) c' (upd X n x) (upd A' n s') by have h := (unhide SGn).setk (j := 0) (v := (.slice p' (n + 1) c')) (unhide R6o); simpa [World.setCell] using h)
              clear R6o
              refine hK.out _ _ ?_ (fun hHeld => ?_)
              · exact ⟨row1 (unhide R1), rowRng (unhide R2)⟩
              clear hK K
              try simp only [Act.put, List.setIfInBounds_toArray, List.set_cons_zero, List.set_cons_succ]
              refine wpAnyH_done (by kernel_rfl) ?_ _
              have SGf := hide (show SG (V5.setCell ⟨b6, 0, none⟩ (.slice p' (n + 1) c')) B0 (V5.setCell ⟨b6, 0, none⟩ (.slice p' (n + 1) c')).heap.size p' (n + 1) c' (upd X n x) (upd A' n s') from unhide SGn)
              clear SGn SGk
              have ET := hide (show ErrT (V5.setCell ⟨b6, 0, none⟩ (.slice p' (n + 1) c')) from (unhide hg).next (unhide HB))
              go_upto_region 5 with fail
              generalize (V5.setCell ⟨b6, 0, none⟩ (.slice p' (n + 1) c')) = WF at R1 R4 R6 HB SGf ET ⊢
              clear R2
              refine wp_region_held_drew (S := (fun u => u.cell? ⟨b6, 0, none⟩ = some (.slice p' (n + 1) c'))) (by kernel_rfl) ?_ (fun hHeld => ?_)
              · exact row1 (unhide R6)
              have hdr := hide (show Below WF.heap.size WF WF.drew from (Below.refl _ _).drew)
              replace R1 := hide (row_next (unhide hdr) (unhide R1))
              replace R4 := hide (row_next (unhide hdr) (unhide R4))
              replace R6 := hide (row_next (unhide hdr) (unhide R6))
              replace HB := hide (below_two (unhide HB) (unhide hdr))
              replace SGf := hide (show SG WF.drew B0 WF.drew.heap.size p' (n + 1) c' (upd X n x) (upd A' n s') from (unhide SGf).next (unhide hdr))
              replace ET := hide ((unhide ET).next (unhide hdr))
              clear hdr
              generalize WF.drew = VF at R1 R4 R6 HB SGf ET hHeld ⊢
              refine wpAnyH_take (i := 0) (oi := { dst := some 22, op := Op.load 26 (Operand.tmp 6), type := 26, pos := "l16_change.go:32", after := #[], guard := none }) (v := ?_) rfl (by kernel_rfl) (by kernel_rfl) (by kernel_rfl) (fun _ _ _ h => h) (Or.inl ⟨by rfl, ?_⟩) (by assumption) ?_
              rotate_left
              · intro w hSw; (try dsimp only at hSw); go_simp <;> with_reducible rfl
              try simp only [Act.put, List.setIfInBounds_toArray, List.set_cons_zero, List.set_cons_succ]
              refine wpAnyH_take (i := 1) (oi := { dst := some 23, op := Op.move (Operand.tmp 7), type := 84, pos := "l16_change.go:32", after := #[], guard := none }) (v := ?_) rfl (by kernel_rfl) (by kernel_rfl) (by kernel_rfl) (fun _ _ _ h => h) (Or.inl ⟨by rfl, ?_⟩) (by assumption) ?_
              rotate_left
              · intro w hSw; (try dsimp only at hSw); go_simp <;> with_reducible rfl
              try simp only [Act.put, List.setIfInBounds_toArray, List.set_cons_zero, List.set_cons_succ]
              refine wpAnyH_ready (rs := [2]) (by kernel_rfl) (by simp) ?_
              refine AllReadyH.cons (o := { dst := some 24, op := Op.call { callee := Callee.value (Operand.func 44), args := #[Operand.tmp 23], argTypes := #[84] }, type := 3, pos := "l16_change.go:32", after := #[{ on := 1, ground := Ground.data }], guard := none }) rfl (fun K hK => ?_) ?_
              · go_simp
                (go_at_call 44; go_fit (unhide EK _ (unhide ET)); rintro r Y1 ⟨rfl, hb⟩)
                replace R1 := hide (row_next hb (unhide R1))
                replace R4 := hide (row_next hb (unhide R4))
                replace R6 := hide (row_next hb (unhide R6))
                replace HB := hide (below_two (unhide HB) hb)
                replace SGf := hide (((unhide SGf).next hb).high hb.size)
                replace ET := hide ((unhide ET).next hb)
                refine hK.out _ _ ?_ (fun hHeld => ?_)
                · exact row1 (unhide R6)
                clear hK K hb
                try simp only [Act.put, List.setIfInBounds_toArray, List.set_cons_zero, List.set_cons_succ]
                refine wpAnyH_ready (rs := [3]) (by kernel_rfl) (by simp) ?_
                refine AllReadyH.cons (o := { dst := none, op := Op.store 26 (Operand.tmp 4) (Operand.tmp 22), type := 0, pos := "l16_change.go:32", after := #[{ on := 0, ground := Ground.data }, { on := 2, ground := Ground.chain }, { on := 0, ground := Ground.phase }, { on := 1, ground := Ground.textOnly Departure.lateStores }, { on := 2, ground := Ground.textOnly Departure.lateStoresUnsure }], guard := none }) rfl (fun K hK => ?_) ?_
                · have cb := row1 (unhide R4)
                  have fb := frozen_of_row Y1 b4 0 _ _ (unhide R4)
                  go_simp
                  have dd := hide (show (Y1.setCell ⟨b4, 0, none⟩ (.slice p' (n + 1) c')).cell? ⟨b4, 0, none⟩ = some (.slice p' (n + 1) c') from World.cell?_setCell_same _ _ _ cb)
                  replace SGf := hide (show SG (Y1.setCell ⟨b4, 0, none⟩ (.slice p' (n + 1) c')) B0 (Y1.setCell ⟨b4, 0, none⟩ (.slice p' (n + 1) c')).heap.size p' (n + 1) c' (upd X n x) (upd A' n s') by have h := (unhide SGf).setk (j := 0) (v := .slice p' (n + 1) c') (unhide R4); simpa [World.setCell] using h)
                  replace R6 := hide (setc_other (b := b4) (j := 0) (v := .slice p' (n + 1) c') (by have := unhide lR; omega) (unhide R6))
                  replace HB := hide ((unhide HB).setCell (p := ⟨b4, 0, none⟩) (by have := unhide lR; dsimp only; omega) (.slice p' (n + 1) c'))
                  replace ET := hide ((unhide ET).low (by have := unhide lR; have := unhide l0; omega) ((Below.refl b4 Y1).setCell (p := ⟨b4, 0, none⟩) (Nat.le_refl _) (.slice p' (n + 1) c')))
                  refine hK.out _ _ ?_ (fun hHeld => ?_)
                  · exact row1 (unhide R6)
                  clear hK K cb fb
                  try simp only [Act.put, List.setIfInBounds_toArray, List.set_cons_zero, List.set_cons_succ]
                  refine wpAnyH_take (i := 4) (oi := { dst := some 5, op := Op.assign (Operand.tmp 24), type := 3, pos := "l16_change.go:32", after := #[{ on := 2, ground := Ground.data }, { on := 3, ground := Ground.chain }, { on := 0, ground := Ground.phase }, { on := 1, ground := Ground.phase }, { on := 2, ground := Ground.phase }, { on := 3, ground := Ground.phase }], guard := none }) (v := ?_) rfl (by kernel_rfl) (by kernel_rfl) (by kernel_rfl) (fun _ _ _ h => h) (Or.inl ⟨by rfl, ?_⟩) (by assumption) ?_
                  rotate_left
                  · intro w hSw; (try dsimp only at hSw); go_simp <;> with_reducible rfl
                  try simp only [Act.put, List.setIfInBounds_toArray, List.set_cons_zero, List.set_cons_succ]
                  refine wpAnyH_done (by kernel_rfl) ?_ _
                  have d0 := unhide dd
                  go_wp2_with fail
                  exact bodyPost_ret (v := .tuple #[.agg #[.slice p' (n + 1) c'], .int .i64 0]) (by simp [results, Tryz.results12, go_sem, d0]) rfl (by obtain ⟨e1, e2⟩ := unhide hM1 (by trivial); rw [e1, e2]; exact ⟨p', c', (upd A' n s'), rfl, (unhide SGf).low (unhide lB0), unhide HB⟩)
                exact AllReadyH.nil
              exact AllReadyH.nil
            exact AllReadyH.nil
          exact AllReadyH.nil
        exact AllReadyH.nil
      exact AllReadyH.nil
    exact AllReadyH.nil
end Go.Proofs.YtmafopckplpajaaGreatDoor

/-
  Kids by their parents: the program's map of lists; a list that is taken from at its beginning and grows at its end.
-/
namespace Go.Proofs.YtmafopckplpajaaGreatDoor
open Go.RowKit
set_option linter.unusedVariables false

theorem kids_more (X : Nat → Nd) (k : Nat) (p : Int) : kidsL X (k + 1) p = if (X k).par = p then kidsL X k p ++ [(X k).id] else kidsL X k p := by
  unfold kidsL
  rw [pickIds]
  by_cases h : (X k).par = p
  · rw [if_pos (decide_eq_true h), if_pos h]
  · rw [if_neg (by rw [decide_eq_false h]; exact Bool.false_ne_true), if_neg h]
theorem kids_le (X : Nat → Nd) (k : Nat) (p : Int) : (kidsL X k p).length ≤ k := pick_le X _ k
theorem kids_mem {X : Nat → Nd} {p z : Int} : ∀ {n : Nat}, z ∈ kidsL X n p ↔ ∃ j, j < n ∧ (X j).par = p ∧ (X j).id = z
  | 0 => by simp [kidsL, pickIds]
  | n + 1 => by
    rw [kids_more]
    have ih := kids_mem (X := X) (p := p) (z := z) (n := n)
    constructor
    · intro h
      split at h
      · rename_i hp
        rcases List.mem_append.1 h with h | h
        · obtain ⟨j, h1, h2⟩ := ih.1 h; exact ⟨j, by omega, h2⟩
        · exact ⟨n, by omega, hp, (List.mem_singleton.1 h).symm⟩
      · obtain ⟨j, h1, h2⟩ := ih.1 h; exact ⟨j, by omega, h2⟩
    · rintro ⟨j, h1, h2, h3⟩
      by_cases e : j = n
      · subst e
        rw [if_pos h2]
        exact List.mem_append.2 (.inr (List.mem_singleton.2 h3.symm))
      · have hm := ih.2 ⟨j, by omega, h2, h3⟩
        split
        · exact List.mem_append.2 (.inl hm)
        · exact hm

/-- The kids' lists by their parent, of the first k nodes: each its own, no two in one row. -/
structure Brood (u : World) (base m : Nat) (X : Nat → Nd) (k : Nat) (V : Int → Value) : Prop where
  map : ∃ D : DataW Value, u.ownsMap Tryz.prog 3 anyElem m k D ∧ ∀ p, (Lit.int .i64 p).wf = true → D.atKey (.int .i64 p) (.held (.slice none 0 0)) = .held (V p)
  row : ∀ p, (Lit.int .i64 p).wf = true → u.ownsRow base 3 1 (V p) (kidsL X k p).length ((kidsL X k p).map Zv)
  apart : ∀ p q, (Lit.int .i64 p).wf = true → (Lit.int .i64 q).wf = true → p ≠ q → (V p).ownBlock = none ∨ (V p).ownBlock ≠ (V q).ownBlock
  lt : m < base
theorem below_grown {w u : World} (hb : Below w.heap.size w u) : w.grownBy u none := ⟨hb.os, hb.tape, hb.output, hb.size, fun k hk _ => hb.block k hk⟩
theorem Brood.next {w u : World} {base m k : Nat} {X : Nat → Nd} {V : Int → Value} (h : Brood w base m X k V) (hb : Below w.heap.size w u) : Brood u base m X k V :=
  ⟨let ⟨D, h1, h2⟩ := h.map; ⟨D, ownsMap_next h1 hb, h2⟩, fun p hp => (h.row p hp).kept (below_grown hb) (by cases hv : (V p).ownBlock <;> simp), h.apart, h.lt⟩
theorem Brood.made (w : World) (X : Nat → Nd) : Brood (w.alloc (.map #[] 0)) (w.heap.size + 1) w.heap.size X 0 (fun _ => .slice none 0 0) :=
  ⟨⟨.map [], World.ownsMap_made w _ _ _, fun p _ => rfl⟩, fun p _ => World.ownsRow_nil _ _ _ _, fun p q _ _ _ => .inl rfl, by omega⟩
theorem ints_zero (w : World) : (zeroValue 30).run Tryz.prog w = .ok (.slice none 0 0) w := by kernel_rfl
theorem Brood.look {w : World} {base m k : Nat} {X : Nat → Nd} {V : Int → Value} (h : Brood w base m X k V) (p : Int) (hp : (Lit.int .i64 p).wf = true) : (Instr.lookup 141 (.map (some m)) (.int .i64 p) false).run Tryz.prog w = .ok (V p) w := by
  obtain ⟨D, h1, h2⟩ := h.map
  obtain ⟨v, ps, hrun, hv⟩ := h1.lookup int_law Tryz.underlying141 (ints_zero w) (zd := .held (.slice none 0 0)) (zp := []) rfl (Go.Maps.keyOf_int_mk Tryz.underlying3 hp)
  rw [h2 p hp] at hv
  rw [hrun, anyElem_inv hv]
theorem Brood.put {w w1 : World} {base m k : Nat} {X : Nat → Nd} {V : Int → Value} (h : Brood w base m X k V) (hk : k ≤ 1048576) (hp : (Lit.int .i64 (X k).par).wf = true) (v' : Value) (hg : w.grownBy w1 (V (X k).par).ownBlock)
    (ho : w1.ownsRow base 3 1 v' (kidsL X k (X k).par ++ [(X k).id]).length ((kidsL X k (X k).par ++ [(X k).id]).map Zv)) (hl : v'.ownBlock = (V (X k).par).ownBlock ∨ ∀ g, v'.ownBlock = some g → w.heap.size ≤ g) :
    ∃ w2, (Instr.mapUpdate 141 (.map (some m)) (.int .i64 (X k).par) v').run Tryz.prog w1 = .ok () w2 ∧ Brood w2 base m X (k + 1) (fun z => if z = (X k).par then v' else V z) ∧ w1.grownBy w2 (some m) := by
  obtain ⟨D, h1, h2⟩ := h.map
  have hne : some m ≠ (V (X k).par).ownBlock := fun e => by have := ((h.row _ hp).lt m e.symm).1; have := h.lt; omega
  have hne2 : v'.ownBlock = none ∨ v'.ownBlock ≠ some m := .inr (fun e => by have := (ho.lt m e).1; have := h.lt; omega)
  have hM := h1.kept hg hne
  have hT := hM.isMap
  obtain ⟨w2, hrun, hown, hg2⟩ := hM.update int_law Tryz.underlying141 (by unfold maxLen; omega) (Go.Maps.keyOf_int_mk Tryz.underlying3 hp) (show anyElem v' = some (.held v', []) from rfl)
  refine ⟨w2, hrun, ⟨⟨_, hown, fun p hpw => ?_⟩, fun p hpw => ?_, fun p q hpw hqw hpq => ?_, h.lt⟩, hg2⟩
  · by_cases e : p = (X k).par
    · rw [if_pos e, e, Go.Maps.atKey_put_same hT (by trivial)]
    · rw [if_neg e, Go.Maps.atKey_put_other (by intro e'; cases e'; exact e rfl), h2 p hpw]
  · rw [kids_more]
    by_cases e : p = (X k).par
    · rw [if_pos e, if_pos e.symm, e]
      exact ho.kept hg2 hne2
    · rw [if_neg e, if_neg (Ne.symm e)]
      have hr := h.row p hpw
      refine (hr.kept hg (h.apart p _ hpw hp e)).kept hg2 ?_
      cases hv : (V p).ownBlock with
      | none => exact .inl rfl
      | some g => exact .inr (fun e' => by cases e'; have := (hr.lt m hv).1; have := h.lt; omega)
  · have far : ∀ r, (Lit.int .i64 r).wf = true → r ≠ (X k).par → (V r).ownBlock = none ∨ (V r).ownBlock ≠ v'.ownBlock := by
      intro r hr hne3
      rcases hl with hl | hl
      · rw [hl]; exact h.apart r _ hr hp hne3
      · cases hv : (V r).ownBlock with
        | none => exact .inl rfl
        | some g => exact .inr (fun e' => by have := ((h.row r hr).lt g hv).2; have := hl g e'.symm; omega)
    by_cases e : p = (X k).par
    · rw [if_pos e]
      by_cases e2 : q = (X k).par
      · exact absurd (e.trans e2.symm) hpq
      · rw [if_neg e2]
        rcases far q hqw e2 with hq | hq
        · cases hv : v'.ownBlock with
          | none => exact .inl rfl
          | some g => exact .inr (fun e' => by rw [hq] at e'; cases e')
        · exact .inr (Ne.symm hq)
    · rw [if_neg e]
      by_cases e2 : q = (X k).par
      · rw [if_pos e2]; exact far p hpw e
      · rw [if_neg e2]; exact h.apart p q hpw hqw hpq

theorem drew_grown (w : World) (row : Option Nat) : w.grownBy w.drew row := ⟨rfl, rfl, rfl, Nat.le_refl _, fun _ _ _ => rfl⟩
/-- 'append' of one number in a region that draws its order. -/
theorem step_append_id {ops : Array Oper} {o : Oper} {a : Act} {wr : World} {K : Act → World → Prop} {Q : Exit → Act → World → Prop} {E : Prop} (hg : o.guard = none) (s x : Operand)
    (hop : o.op = .call { callee := .builtin .append, args := #[s, x], argTypes := #[30, 30] })
    (base : Nat) (i : TypeInfo) (hi : Tryz.prog.info? 3 = some i) (hz : i.zero = some (.int .i64 0)) (hsize : i.size = 1) (hby : i.bytes = 8)
    (v : Value) (L : List Int) (hs : a.eval s = v) (hown : wr.ownsRow base 3 1 v L.length (L.map Zv)) (z : Int) (c : Nat) (hx : a.eval x = .slice (some ⟨wr.heap.size, 0, none⟩) 1 c)
    (hlen : L.length ≤ 1048576) (hbase : base ≤ wr.heap.size)
    (hK : ∀ v' w', w'.ownsRow base 3 1 v' (L ++ [z]).length ((L ++ [z]).map Zv) → wr.grownBy w' v.ownBlock → (v'.ownBlock = v.ownBlock ∨ ∀ g, v'.ownBlock = some g → wr.heap.size ≤ g) → K (a.put o.dst v') w') :
    if Region.wanted o (yielded ops a.tmps) = true then Oper.wp Tryz.prog o a (wr.alloc (.cells #[.int .i64 z] 3)).drew K Q else E := by
  refine step_append_lies ((wr.alloc (.cells #[.int .i64 z] 3)).drew) hg s x 30 hop base 3 i (.int .i64 0) 1 8 Tryz.underlying30 hi hz hsize hby rfl (by decide) v L.length (L.map Zv) hs (hown.alloc _) ⟨wr.heap.size, 0, none⟩ 1 c [.int .i64 z] hx (by simp)
    (cell_one_new wr (.int .i64 z) 3) (fun q hq => by simp at hq; subst hq; rfl) (by decide) (by unfold maxLen; omega) (by omega) (by show base ≤ (wr.alloc _).heap.size; rw [al1_size]; omega) (wr.heap.size + 1) (by show (wr.alloc _).heap.size = _; rw [al1_size]) ?_
  intro g cap w' ho' hg' hat _
  refine hK _ w' (ids_snoc (z := z) (by have e : (L.map Zv ++ #[Value.int .i64 z].toList).length = L.length + 1 := by simp
                                        rw [e]; exact ho')) (((World.grownBy_alloc wr _ _).trans (drew_grown _ _)).trans hg') ?_
  rcases hat with h | h
  · exact .inl h.symm
  · refine .inr (fun k hk => ?_)
    simp only [Value.ownBlock, Option.some.injEq] at hk
    omega
end Go.Proofs.YtmafopckplpajaaGreatDoor

/-
  A list of numbers that is taken from at its beginning and grows at its end.
-/
namespace Go.Proofs.YtmafopckplpajaaGreatDoor
open Go.RowKit
set_option linter.unusedVariables false

def QRow (u : World) (base : Nat) (v : Value) (xs : List Int) : Prop :=
  ∃ g off cap cur, v = .slice (some ⟨g, off, none⟩) xs.length cap ∧ base ≤ g ∧ u.heap[g]? = some (.cells cur 3 (0, 0)) ∧ xs.length ≤ cap ∧ off + cap ≤ cur.size ∧ cap ≤ maxLen ∧ ∀ j z, xs[j]? = some z → cur[off + j]? = some (.int .i64 z)
theorem QRow.start (w : World) (z : Int) : QRow (w.alloc (.cells #[.int .i64 z] 3)) w.heap.size (.slice (some ⟨w.heap.size, 0, none⟩) 1 1) [z] := by
  refine ⟨w.heap.size, 0, 1, _, rfl, Nat.le_refl _, new_row w _, Nat.le_refl _, Nat.le_refl _, by unfold maxLen; omega, fun j y h => ?_⟩
  cases j with
  | zero => simp at h; subst h; rfl
  | succ j => simp at h
theorem QRow.next {w u : World} {base : Nat} {v : Value} {xs : List Int} (h : QRow w base v xs) {row : Option Nat} (hg : w.grownBy u row) (hne : ∀ g, row = some g → g < base) : QRow u base v xs := by
  obtain ⟨g, off, cap, cur, h1, h2, h3, h4⟩ := h
  exact ⟨g, off, cap, cur, h1, h2, (hg.block g (heap_lt h3) (fun e => by have := hne g e.symm; omega)).trans h3, h4⟩
theorem QRow.form {u : World} {base : Nat} {v : Value} {z : Int} {r : List Int} (h : QRow u base v (z :: r)) : ∃ g off c, v = .slice (some ⟨g, off, none⟩) (r.length + 1) (c + 1) ∧ u.cell? ⟨g, off, none⟩ = some (.int .i64 z) ∧ base ≤ g ∧ r.length ≤ c ∧ c + 1 ≤ maxLen ∧
    (0 < c → QRow u base (.slice (some ⟨g, off + 1, none⟩) r.length c) r) ∧ (c = 0 → QRow u base (.slice (some ⟨g, off, none⟩) 0 0) r ∧ r = []) := by
  obtain ⟨g, off, cap, cur, rfl, h2, h3, h4, h5, h6, h7⟩ := h
  simp only [List.length_cons] at h4
  obtain ⟨c, rfl⟩ : ∃ c, cap = c + 1 := ⟨cap - 1, by omega⟩
  refine ⟨g, off, c, rfl, ?_, h2, by omega, h6, fun hc => ?_, fun hc => ?_⟩
  · rw [cell_of_row u g off cur 3 (0, 0) h3]
    exact h7 0 z rfl
  · refine ⟨g, off + 1, c, cur, rfl, h2, h3, by omega, by omega, by omega, fun j y hj => ?_⟩
    have := h7 (j + 1) y (by simpa using hj)
    rwa [show off + 1 + j = off + (j + 1) by omega]
  · have hr : r = [] := List.eq_nil_of_length_eq_zero (by omega)
    subst hr
    exact ⟨⟨g, off, 0, cur, rfl, h2, h3, Nat.le_refl _, by omega, by omega, fun j y hj => by simp at hj⟩, rfl⟩
theorem QRow.none {u : World} {base : Nat} {v : Value} (h : QRow u base v []) : ∃ a c, v = .slice (some a) 0 c := by
  obtain ⟨g, off, cap, cur, rfl, _⟩ := h
  exact ⟨_, _, rfl⟩
theorem QRow.any {u : World} {base : Nat} {v : Value} {xs : List Int} (h : QRow u base v xs) : ∃ a c, v = .slice (some a) xs.length c := by
  obtain ⟨g, off, cap, cur, rfl, _⟩ := h
  exact ⟨_, _, rfl⟩
/-- Numbers that can be read there. -/
def IntsAt (u : World) (y : Value) (ys : List Int) : Prop := (y = .slice none 0 0 ∧ ys = []) ∨ ∃ a c, y = .slice (some a) ys.length c ∧ ∀ j z, ys[j]? = some z → u.cell? (a.add j) = some (.int .i64 z)
theorem own_ints {u : World} {base : Nat} {v : Value} {L : List Int} (h : u.ownsRow base 3 1 v L.length (L.map Zv)) : IntsAt u v L := by
  have hc := fun g (e : v.ownBlock = some g) => h.cells e
  rcases h.2 with ⟨h1, h2⟩ | ⟨g, cap, cur, h1, _⟩
  · exact .inl ⟨h1, List.eq_nil_of_length_eq_zero h2⟩
  · subst h1
    refine .inr ⟨_, _, rfl, fun j z hj => hc g rfl j _ ?_⟩
    rw [List.getElem?_map, hj]
    rfl
theorem len_map_int (ys : List Int) : (ys.map Zv).length = ys.length * 1 := by simp
theorem map_int_one (ys : List Int) : ∀ u ∈ ys.map Zv, u.oneCell' = true := by
  intro u hu
  obtain ⟨z, _, rfl⟩ := List.mem_map.1 hu
  rfl
theorem run_append_queue {u : World} {base : Nat} {v y : Value} {xs ys : List Int} (i : TypeInfo) (hi : Tryz.prog.info? 3 = some i) (hz : i.zero = some (.int .i64 0)) (hsize : i.size = 1) (hby : i.bytes = 8)
    (hq : QRow u base v xs) (hy : IntsAt u y ys) (hlen : xs.length + ys.length ≤ 1099511627776) (hbase : base ≤ u.heap.size) (ty : TypeId) :
    ∃ v' u', (Builtin.append_ #[30, 30] ty #[v, y]).run Tryz.prog u = .ok v' u' ∧ QRow u' base v' (xs ++ ys) ∧ u.grownBy u' v.ownBlock := by
  obtain ⟨g, off, cap, cur, rfl, h2, h3, h4, h5, h6, h7⟩ := hq
  rcases hy with ⟨rfl, rfl⟩ | ⟨a, c, rfl, hn⟩
  · refine ⟨.slice (some ⟨g, off, none⟩) xs.length cap, u, ?_, ?_, ⟨rfl, rfl, rfl, Nat.le_refl _, fun _ _ _ => rfl⟩⟩
    · have hst := run_storeCells_at (P := Tryz.prog) g (off + xs.length) 3 [] 0 cur u h3 (by simp; omega) (by simp)
      simp only [List.length_nil, Nat.add_zero, List.append_nil, List.take_append_drop, Array.toArray_toList] at hst
      rw [setRow_self u g cur 3 (0, 0) h3] at hst
      simp [Builtin.append_, run_underlying Tryz.underlying30, sizeOf, typeInfo, hi, Builtin.lenOf, h4, Builtin.firstCells, Addr.add_lit, hsize, hst]
    · rw [List.append_nil]; exact ⟨g, off, cap, cur, rfl, h2, h3, h4, h5, h6, h7⟩
  · have hnews : ∀ j q, (ys.map Zv)[j]? = some q → u.cell? (a.add j) = some q := by
      intro j q hj
      rw [List.getElem?_map] at hj
      cases hy : ys[j]? with
      | none => rw [hy] at hj; cases hj
      | some z => rw [hy] at hj; cases hj; exact hn j z hy
    have hl : (ys.map Zv).length = ys.length * i.size := by rw [hsize]; exact len_map_int ys
    by_cases hroom : xs.length + ys.length ≤ cap
    · have hf := run_firstCells_some (P := Tryz.prog) u i.size ys.length a ys.length c (ys.map Zv) hl hnews
      have hst := run_storeCells_at (P := Tryz.prog) g (off + xs.length) 3 (ys.map Zv) 0 cur u h3 (by simp; omega) (map_int_one ys)
      simp only [Nat.add_zero] at hst
      rw [hsize] at hf
      refine ⟨.slice (some ⟨g, off, none⟩) (xs.length + ys.length) cap, u.setRow g (cur.toList.take (off + xs.length) ++ ys.map Zv ++ cur.toList.drop (off + xs.length + (ys.map Zv).length)).toArray, ?_, ⟨g, off, cap, _, ?_, h2, setRow_heap u g cur _ 3 _ h3, ?_, ?_, h6, fun j z hj => ?_⟩, ⟨rfl, rfl, rfl, by simp, fun k _ hk => Go.setRow_other u g k _ (fun e => hk (by simp [Value.ownBlock, e]))⟩⟩
      · simp [Builtin.append_, run_underlying Tryz.underlying30, sizeOf, typeInfo, hi, Builtin.lenOf, hroom, hf, Addr.add_lit, hsize, hst]
      · rw [List.length_append]
      · rw [List.length_append]; exact hroom
      · simp; omega
      · have hsz : off + xs.length ≤ cur.size := by omega
        have hT : (cur.toList.take (off + xs.length)).length = off + xs.length := by simp; omega
        simp only [List.getElem?_toArray]
        rw [List.append_assoc]
        rw [List.getElem?_append] at hj
        by_cases hjx : j < xs.length
        · rw [if_pos hjx] at hj
          rw [List.getElem?_append_left (by rw [hT]; omega), List.getElem?_take_of_lt (by omega), Array.getElem?_toList]
          exact h7 j z hj
        · rw [if_neg hjx] at hj
          rw [List.getElem?_append_right (by rw [hT]; omega), hT, show off + j - (off + xs.length) = j - xs.length by omega]
          have hlt : j - xs.length < ys.length := (List.getElem?_eq_some_iff.1 hj).1
          rw [List.getElem?_append_left (by simp; omega), List.getElem?_map, hj]
          rfl
    · have holds : ∀ j q, (xs.map Zv)[j]? = some q → u.cell? ((⟨g, off, none⟩ : Addr).add j) = some q := by
        intro j q hj
        rw [List.getElem?_map] at hj
        cases hx : xs[j]? with
        | none => rw [hx] at hj; cases hj
        | some z =>
          rw [hx] at hj; cases hj
          rw [Addr.add_lit, cell_of_row u g (off + j) cur 3 (0, 0) h3]
          exact h7 j z hx
      have hlo : (xs.map Zv).length = xs.length * i.size := by rw [hsize]; exact len_map_int xs
      have hr := run_append_grow (P := Tryz.prog) u 30 ty 3 i (.int .i64 0) Tryz.underlying30 hi hz ⟨g, off, none⟩ xs.length cap (xs.map Zv) hlo holds a ys.length c (ys.map Zv) hl hnews (by omega) (by omega) (growslice_fits (by omega) (by rw [hby]; omega))
      have hge := grownCap_ge u (xs.length + ys.length) cap 3
      have hcm : grownCap u (xs.length + ys.length) cap 3 ≤ maxLen := grownCap_le_maxLen u (xs.length + ys.length) cap 3 (by unfold maxLen; omega)
      refine ⟨_, _, hr, ⟨u.heap.size, 0, _, _, by rw [List.length_append], hbase, heap_alloc_new u.drew _, by rw [List.length_append]; exact hge, ?_, hcm, fun j z hj => ?_⟩, ⟨rfl, rfl, rfl, by simp, fun k hk _ => heap_alloc_old u.drew _ hk⟩⟩
      · simp only [Array.size_append, List.size_toArray, size_zeroCells, List.length_map]
        show 0 + _ ≤ xs.length + ys.length + _ * 1
        omega
      · have hlt : j < (xs ++ ys).length := (List.getElem?_eq_some_iff.1 hj).1
        have e : (xs.map Zv).toArray ++ (ys.map Zv).toArray = ((xs ++ ys).map Zv).toArray := by simp
        rw [e, Nat.zero_add, Array.getElem?_append_left (by simpa using hlt)]
        simp only [List.getElem?_toArray, List.getElem?_map, hj]
        rfl
end Go.Proofs.YtmafopckplpajaaGreatDoor

/-
  What falls with a node: what both sides reckon.
-/
namespace Go.Proofs.YtmafopckplpajaaGreatDoor
open Go.RowKit
set_option linter.unusedVariables false

/-- A map of pointers by numbers. -/
def NMap (u : World) (m n : Nat) (f : Int → Value) : Prop := ∃ D : DataW Value, u.ownsMap Tryz.prog 3 anyElem m n D ∧ ∀ z, (Lit.int .i64 z).wf = true → D.atKey (.int .i64 z) (.held (.pointer none)) = .held (f z)
theorem Stand.nmap {w : World} {m n : Nat} {ao : Option Addr} {X : Nat → Nd} (h : Stand w m ao X n) : NMap w m n (stP ao X n) := let ⟨D, h1, h2, _⟩ := h; ⟨D, h1, h2⟩
theorem NMap.look {w : World} {m n : Nat} {f : Int → Value} (h : NMap w m n f) (z : Int) (hz : (Lit.int .i64 z).wf = true) : (Instr.lookup 90 (.map (some m)) (.int .i64 z) false).run Tryz.prog w = .ok (f z) w := by
  obtain ⟨D, h1, h2⟩ := h
  obtain ⟨v, ps, hrun, hv⟩ := h1.lookup int_law Tryz.underlying90 (ptr_zero w) (zd := .held (.pointer none)) (zp := []) rfl (Go.Maps.keyOf_int_mk Tryz.underlying3 hz)
  rw [h2 z hz] at hv
  rw [hrun, anyElem_inv hv]
theorem NMap.next {w u : World} {m n : Nat} {f : Int → Value} (h : NMap w m n f) (hb : Below w.heap.size w u) : NMap u m n f := let ⟨D, h1, h2⟩ := h; ⟨D, ownsMap_next h1 hb, h2⟩
theorem NMap.kept {w u : World} {m n : Nat} {f : Int → Value} {row : Option Nat} (h : NMap w m n f) (hg : w.grownBy u row) (hne : some m ≠ row) : NMap u m n f := let ⟨D, h1, h2⟩ := h; ⟨D, h1.kept hg hne, h2⟩
/-- How many entries a map has. -/
def msize (u : World) (m : Nat) : Nat := match u.heap[m]? with | some (.map es _) => es.size | _ => 0
theorem ownsMap_msize {w : World} {P : Program} {k : TypeId} {R : Value → Option (DataW Value × List MemPlace)} {m n : Nat} {D : DataW Value} (h : w.ownsMap P k R m n D) : msize w m = Maps.size D := by
  obtain ⟨es, c, h1, _, _, rfl⟩ := h
  unfold msize
  rw [h1]
  simp [Maps.size, length_sorted]
theorem NMap.size {w : World} {m n : Nat} {f : Int → Value} (h : NMap w m n f) : msize w m ≤ n := by
  obtain ⟨D, h1, _⟩ := h
  rw [ownsMap_msize h1]; exact h1.size_le
theorem msize_kept {w u : World} {m : Nat} {row : Option Nat} (hg : w.grownBy u row) (hm : m < w.heap.size) (hne : some m ≠ row) : msize u m = msize w m := by
  unfold msize; rw [hg.block m hm hne]
theorem NMap.lt {w : World} {m n : Nat} {f : Int → Value} (h : NMap w m n f) : m < w.heap.size := let ⟨D, h1, _⟩ := h; h1.lt
theorem NMap.del {w : World} {m n : Nat} {f : Int → Value} (h : NMap w m n f) (z : Int) (hz : (Lit.int .i64 z).wf = true) (hne : f z ≠ .pointer none) (ty : TypeId) :
    ∃ w', (Builtin.delete_ #[90, 3] ty #[.map (some m), .int .i64 z]).run Tryz.prog w = .ok (.tuple #[]) w' ∧ NMap w' m n (fun y => if y = z then .pointer none else f y) ∧ w.grownBy w' (some m) ∧ msize w' m + 1 = msize w m := by
  obtain ⟨D, h1, h2⟩ := h
  have hT := h1.tidy int_law
  have hh : Maps.has D (.int .i64 z) = true := by
    cases hc : Maps.has D (.int .i64 z) with
    | true => rfl
    | false =>
      have := Go.Maps.atKey_of_not_has hc (.held (.pointer none))
      rw [h2 z hz] at this
      injection this with e
      exact absurd e hne
  obtain ⟨w', hrun, hown, hg⟩ := h1.drop int_law Tryz.underlying90 (Go.Maps.keyOf_int_mk Tryz.underlying3 hz) ty
  refine ⟨w', hrun, ⟨_, hown, fun y hy => ?_⟩, hg.grown, ?_⟩
  · dsimp only
    by_cases e : y = z
    · rw [if_pos e, e, Go.Maps.atKey_del_same]
    · rw [if_neg e, Go.Maps.atKey_del_other (by intro e'; cases e'; exact e rfl), h2 y hy]
  · rw [ownsMap_msize hown, ownsMap_msize h1]
    have := Go.Maps.size_del (k := .int .i64 z) hT
    rw [hh] at this
    simpa using this
/-- What stands once those of G are gone. -/
def goneF (G : Int → Bool) (f : Int → Value) (z : Int) : Value := if G z = true then .pointer none else f z
theorem goneF_more (G : Int → Bool) (f : Int → Value) (z : Int) : (fun y => if y = z then Value.pointer none else goneF G f y) = goneF (fun y => decide (y = z) || G y) f := by
  funext y
  unfold goneF
  dsimp only
  by_cases e : y = z
  · simp [e]
  · simp [e]
theorem goneF_no (f : Int → Value) : goneF (fun _ => false) f = f := by funext y; rfl
structure FInv (X : Nat → Nd) (n : Nat) (R : Int → Prop) (top : Int) (G : Int → Bool) (xs : List Int) : Prop where
  g1 : ∀ z, G z = true → R z ∧ ¬ firstN X z n < 0
  q1 : ∀ z, z ∈ xs → R z ∧ (Lit.int .i64 z).wf = true
  q2 : ∀ p, G p = true → ∀ z, z ∈ kidsL X n p → G z = true ∨ z ∈ xs
  q3 : ¬ firstN X top n < 0 → G top = true ∨ top ∈ xs
theorem FInv.start {X : Nat → Nd} {n : Nat} {R : Int → Prop} {top : Int} (h1 : R top) (h2 : (Lit.int .i64 top).wf = true) : FInv X n R top (fun _ => false) [top] :=
  ⟨fun z h => (Bool.false_ne_true h).elim, fun z h => (List.mem_singleton.1 h) ▸ ⟨h1, h2⟩, fun p h => (Bool.false_ne_true h).elim, fun _ => .inr (List.mem_singleton.2 rfl)⟩
theorem kid_first {X : Nat → Nd} {n : Nat} {p z : Int} (h : z ∈ kidsL X n p) : ¬ firstN X z n < 0 := by
  obtain ⟨j, hj, _, e⟩ := kids_mem.1 h
  rcases first_is (X := X) (id := z) n with ⟨_, h2⟩ | ⟨k, _, e2, _⟩
  · exact absurd e (h2 j hj)
  · omega
/-- The first of the list does not stand. -/
theorem FInv.pass {X : Nat → Nd} {n : Nat} {R : Int → Prop} {top z : Int} {G : Int → Bool} {r : List Int} (h : FInv X n R top G (z :: r)) (hz : G z = true ∨ firstN X z n < 0) : FInv X n R top G r := by
  refine ⟨h.g1, fun y hy => h.q1 y (List.mem_cons_of_mem _ hy), fun p hp y hy => ?_, fun ht => ?_⟩
  · rcases h.q2 p hp y hy with h1 | h1
    · exact .inl h1
    · rcases List.mem_cons.1 h1 with e | h1
      · subst e
        rcases hz with hz | hz
        · exact .inl hz
        · exact absurd hz (kid_first hy)
      · exact .inr h1
  · rcases h.q3 ht with h1 | h1
    · exact .inl h1
    · rcases List.mem_cons.1 h1 with e | h1
      · subst e
        exact .inl (hz.resolve_right ht)
      · exact .inr h1
/-- It stands: it falls, and its kids wait. -/
theorem FInv.fall {X : Nat → Nd} {n : Nat} {R : Int → Prop} {top z : Int} {G : Int → Bool} {r : List Int} (h : FInv X n R top G (z :: r)) (hz : ¬ firstN X z n < 0) (hR : ∀ p, R p → ¬ firstN X p n < 0 → ∀ y, y ∈ kidsL X n p → R y)
    (hw : ∀ i, i < n → (Lit.int .i64 (X i).id).wf = true) : FInv X n R top (fun y => decide (y = z) || G y) (r ++ kidsL X n z) := by
  have hRz := (h.q1 z (List.mem_cons_self ..)).1
  refine ⟨fun y hy => ?_, fun y hy => ?_, fun p hp y hy => ?_, fun ht => ?_⟩
  · simp only [Bool.or_eq_true, decide_eq_true_eq] at hy
    rcases hy with e | hy
    · rw [e]; exact ⟨hRz, hz⟩
    · exact h.g1 y hy
  · rcases List.mem_append.1 hy with hy | hy
    · exact h.q1 y (List.mem_cons_of_mem _ hy)
    · refine ⟨hR z hRz hz y hy, ?_⟩
      obtain ⟨j, hj, _, e⟩ := kids_mem.1 hy
      rw [← e]; exact hw j hj
  · simp only [Bool.or_eq_true, decide_eq_true_eq] at hp ⊢
    by_cases e : p = z
    · subst e; exact .inr (List.mem_append.2 (.inr hy))
    · rcases h.q2 p (hp.resolve_left e) y hy with h1 | h1
      · exact .inl (.inr h1)
      · rcases List.mem_cons.1 h1 with e2 | h1
        · exact .inl (.inl e2)
        · exact .inr (List.mem_append.2 (.inl h1))
  · simp only [Bool.or_eq_true, decide_eq_true_eq]
    rcases h.q3 ht with h1 | h1
    · exact .inl (.inr h1)
    · rcases List.mem_cons.1 h1 with e2 | h1
      · exact .inl (.inl e2)
      · exact .inr (List.mem_append.2 (.inl h1))
theorem grown_far {w u u' : World} {row r2 : Option Nat} (h : w.grownBy u row) (k : u.grownBy u' r2) (hr : ∀ g, r2 = some g → w.heap.size ≤ g) : w.grownBy u' row :=
  ⟨k.os.trans h.os, k.tape.trans h.tape, k.output.trans h.output, Nat.le_trans h.size k.size, fun i hi hne => (k.block i (Nat.lt_of_lt_of_le hi h.size) (fun e => by have := hr i e.symm; omega)).trans (h.block i hi hne)⟩
theorem Brood.kept {w u : World} {base m k q : Nat} {X : Nat → Nd} {V : Int → Value} (h : Brood w base m X k V) (hg : w.grownBy u (some q)) (hq : q < base) (hqm : q ≠ m) : Brood u base m X k V :=
  ⟨let ⟨D, h1, h2⟩ := h.map; ⟨D, h1.kept hg (fun e => by cases e; exact hqm rfl), h2⟩, fun p hp => (h.row p hp).kept hg (by
    cases hv : (V p).ownBlock with
    | none => exact .inl rfl
    | some g => exact .inr (fun e => by cases e; have := ((h.row p hp).lt q hv).1; omega)), h.apart, h.lt⟩
/-- The length of a list. -/
def lenV : Value → Nat
  | .slice _ n _ => n
  | _ => 0
theorem wpList_delete_nm {w : World} {ops : Array Oper} {rest : List Oper} {o : Oper} {a : Act} {Q : Exit → Act → World → Prop} (hg : o.guard = none) (m x : Operand)
    (hop : o.op = Op.call { callee := Callee.builtin Builtin.delete, args := #[m, x], argTypes := #[90, 3] }) (b n : Nat) (f : Int → Value) (hm : a.eval m = .map (some b)) (h : NMap w b n f) (z : Int) (hx : a.eval x = .int .i64 z) (hz : (Lit.int .i64 z).wf = true) (hne : f z ≠ .pointer none)
    (hK : ∀ w', NMap w' b n (fun y => if y = z then .pointer none else f y) → w.grownBy w' (some b) → msize w' b + 1 = msize w b → wpList Tryz.prog ops Q rest (a.put o.dst (.tuple #[])) w') : wpList Tryz.prog ops Q (o :: rest) a w := by
  refine wpList_plain hg fun K' hK' => ?_
  obtain ⟨w', hrun, r1, r2, r3⟩ := h.del z hz hne o.type
  unfold Oper.wp
  simp [execOp, hop, resolve, invoke, builtin, hm, hx, hrun, Result.andThen]
  exact hK' _ _ (hK w' r1 r2 r3)
theorem wpList_append_queue {w : World} {ops : Array Oper} {rest : List Oper} {o : Oper} {a : Act} {Q : Exit → Act → World → Prop} (hg : o.guard = none) (s x : Operand)
    (hop : o.op = .call { callee := .builtin .append, args := #[s, x], argTypes := #[30, 30] }) (base : Nat) (i : TypeInfo) (hi : Tryz.prog.info? 3 = some i) (hz : i.zero = some (.int .i64 0)) (hsize : i.size = 1) (hby : i.bytes = 8)
    (v y : Value) (xs ys : List Int) (hs : a.eval s = v) (hx : a.eval x = y) (hq : QRow w base v xs) (hy : IntsAt w y ys) (hlen : xs.length + ys.length ≤ 1099511627776) (hbase : base ≤ w.heap.size)
    (hK : ∀ v' w', QRow w' base v' (xs ++ ys) → w.grownBy w' v.ownBlock → wpList Tryz.prog ops Q rest (a.put o.dst v') w') : wpList Tryz.prog ops Q (o :: rest) a w := by
  refine wpList_plain hg fun K' hK' => ?_
  obtain ⟨v', w', hrun, r1, r2⟩ := run_append_queue i hi hz hsize hby hq hy hlen hbase o.type
  unfold Oper.wp
  simp [execOp, hop, resolve, invoke, builtin, hs, hx, hrun, Result.andThen]
  exact hK' _ _ (hK v' w' r1 r2)
theorem QRow.block {u : World} {base : Nat} {v : Value} {xs : List Int} (h : QRow u base v xs) : ∀ g, v.ownBlock = some g → base ≤ g := by
  obtain ⟨g, off, cap, cur, rfl, h2, _⟩ := h
  intro k hk
  simp only [Value.ownBlock, Option.some.injEq] at hk
  omega
end Go.Proofs.YtmafopckplpajaaGreatDoor

/-
  The program's broodsOf.
-/
namespace Go.Proofs.YtmafopckplpajaaGreatDoor
open Go.RowKit
set_option linter.unusedVariables false

set_option maxHeartbeats 8000000 in
set_option maxRecDepth 100000 in
theorem implBroodsOf_any (X : Nat → Nd) (A : Nat → Na) (ao : Option Addr) (n cp : Nat) (hn : n ≤ 1048576) (hf : ∀ i, i < n → (Lit.int .i64 (X i).par).wf = true) (w : World) (P : ∀ i, i < n → NrAt w ao i (X i) (A i)) :
    Calls Tryz.prog 119 #[.agg #[.slice ao n cp]] w fun r w' => ∃ m V, r = .returned (.map (some m)) ∧ Brood w' (m + 1) m X n V ∧ w.heap.size ≤ m ∧ Below w.heap.size w w' := by
  have hmm := @run_makeMap Tryz.prog
  obtain ⟨i0, hi, hz0, hz1, hz2⟩ := info_parts infoInt15
  replace P := hide P
  replace hf := hide hf
  go_enter Tryz.func119, Tryz.ntmps119
  go_upto_region 1 with fail
  have R := hide (new_row w (.cells #[.slice ao n cp] 26))
  have HB := hide (al1_below w (.cells #[.slice ao n cp] 26))
  have hm := hide (show w.heap.size < (w.alloc (.cells #[.slice ao n cp] 26)).heap.size by rw [al1_size]; omega)
  generalize w.alloc (.cells #[.slice ao n cp] 26) = W at R HB hm ⊢
  obtain ⟨b1, hb1⟩ : ∃ z, Hid (z = w.heap.size) := ⟨_, rfl⟩
  rw [← unhide hb1] at R hm ⊢
  go_upto_region 2 with fail
  have S := hide (Brood.made W X)
  have hms := hide (show W.heap.size < (W.alloc (.map #[] 0)).heap.size by rw [al1_size]; omega)
  replace R := hide (row_next (al1_below W (.map #[] 0)) (unhide R))
  replace HB := hide (below_two (unhide HB) (al1_below W (.map #[] 0)))
  generalize W.alloc (.map #[] 0) = W2 at R HB S hms ⊢
  generalize W.heap.size = m at S hm hms ⊢
  clear hmm
  have c0 := row1 (unhide R)
  go_upto_region 3 with fail
  clear c0
  go_loopw [10] (fun i u => ∃ (k : Nat) (V : Int → Value), k ≤ n ∧ i = .int .i64 (k : Int) ∧ Hid (Brood u (m + 1) m X k V) ∧ Hid (m < u.heap.size) ∧ Hid (Below w.heap.size w u)) (fun i _ => n - (intOf i).toNat)
  case atStart => exact ⟨0, _, Nat.zero_le _, rfl, S, hms, HB⟩
  case round =>
    clear S R HB hms
    obtain ⟨k, V, hk, rfl, S, hms, HB⟩ := hrel
    by_cases hkn : k < n
    · have hki : (k : Int) < (n : Int) := by omega
      have HP := hide ((unhide P k hkn).next (unhide HB))
      have hfk := hide (unhide hf k hkn)
      have hle := hide (kids_le X k (X k).par)
      have HPUT := hide (fun (u w1 : World) (v' : Value) (h : Brood u (m + 1) m X k V) => h.put (w1 := w1) (by omega) (unhide hfk) v')
      have HROW := hide (fun (u : World) (h : Brood u (m + 1) m X k V) => h.row (X k).par (unhide hfk))
      have HLOOK := hide (fun (u : World) (h : Brood u (m + 1) m X k V) => h.look (X k).par (unhide hfk))
      generalize kidsL X k (X k).par = L at hle HPUT HROW
      obtain ⟨xx, hxx⟩ : ∃ z, Hid (X k = z) := ⟨_, rfl⟩
      obtain ⟨ss, hss⟩ : ∃ z, Hid (A k = z) := ⟨_, rfl⟩
      rw [unhide hxx, unhide hss] at HP
      rw [unhide hxx] at HPUT HROW HLOOK
      obtain ⟨b, o, hao, hrg⟩ := (unhide HP).range
      replace hrg := hide hrg
      subst hao
      go_upto_region 5 with (first | refine load_node rfl _ rfl b (o + k * 31) rfl xx ss (unhide hrg) ?_ | refine store_new rfl _ _ rfl _ xx ss rfl rfl rfl ?_)
      have R4 := hide (new_row wr (.cells (ndC xx ss) 41))
      have D4 := hide (al1_below wr (.cells (ndC xx ss) 41))
      have hlt := hide (fun g (e : (V xx.par).ownBlock = some g) => ((unhide HROW wr (unhide S)).lt g e).2)
      replace S := hide ((unhide S).next (unhide D4))
      have hb4 : Hid (m + 1 ≤ wr.heap.size) := unhide hms
      replace hms := hide (show m + 1 ≤ (wr.alloc (.cells (ndC xx ss) 41)).heap.size by have := unhide hms; rw [al1_size]; omega)
      replace HB := hide (below_two (unhide HB) (unhide D4))
      clear hrg HP D4
      generalize wr.alloc (.cells (ndC xx ss) 41) = W4 at R4 HB S hms ⊢
      generalize wr.heap.size = b4 at R4 hb4 hlt ⊢
      obtain ⟨c0, c1, _⟩ := headsC (unhide R4)
      have hl1 : (Instr.lookup 141 (.map (some m)) (.int .i64 xx.par) false).run Tryz.prog W4.drew = .ok (V xx.par) W4.drew := unhide HLOOK W4.drew ((unhide S).next (Below.refl _ _).drew)
      have hl2 : (Instr.lookup 141 (.map (some m)) (.int .i64 xx.par) false).run Tryz.prog (W4.alloc (.cells #[.int .i64 xx.id] 3)).drew = .ok (V xx.par) (W4.alloc (.cells #[.int .i64 xx.id] 3)).drew := unhide HLOOK _ ((unhide S).next (al1_below W4 _).drew)
      have hO := hide (unhide HROW W4 (unhide S))
      have hA : Hid (∀ w1 : World, W4.grownBy w1 (V xx.par).ownBlock → (w1.cell? ⟨b4, 0, none⟩ = some (.int .i64 xx.id) ∧ w1.cell? ⟨b4, 1, none⟩ = some (.int .i64 xx.par))) := fun w1 hg => by
        have hne : some b4 ≠ (V xx.par).ownBlock := fun e => by have := unhide hlt b4 e.symm; omega
        exact ⟨hg.cell c0 hne, hg.cell c1 hne⟩
      have hB : Hid (∀ w1 w2 : World, (w1.cell? ⟨b4, 0, none⟩ = some (.int .i64 xx.id) ∧ w1.cell? ⟨b4, 1, none⟩ = some (.int .i64 xx.par)) → w1.grownBy w2 (some m) → (w2.cell? ⟨b4, 0, none⟩ = some (.int .i64 xx.id) ∧ w2.cell? ⟨b4, 1, none⟩ = some (.int .i64 xx.par))) := fun w1 w2 hc hg => by
        have hne : some b4 ≠ some m := fun e => by cases e; have := unhide hb4; omega
        exact ⟨hg.cell hc.1 hne, hg.cell hc.2 hne⟩
      have hC : Hid (∀ w1 w2 : World, W4.grownBy w1 (V xx.par).ownBlock → w1.grownBy w2 (some m) → Below w.heap.size w w2) := fun w1 w2 g1 g2 => by
        have hwm : w.heap.size ≤ m := by have := unhide hm; have := unhide hb1; omega
        have h1 : Below w.heap.size w w1 := (unhide HB).grown g1 (unhide HB).size (fun g e => by have := ((unhide hO).lt g e).1; omega)
        exact h1.grown g2 h1.size (fun g e => by cases e; exact hwm)
      have k1 : Hid (W4.drew.cell? ⟨b4, 0, none⟩ = some (.int .i64 xx.id) ∧ W4.drew.cell? ⟨b4, 1, none⟩ = some (.int .i64 xx.par)) := ⟨c0, c1⟩
      have k2 : Hid ((W4.alloc (.cells #[.int .i64 xx.id] 3)).drew.cell? ⟨b4, 0, none⟩ = some (.int .i64 xx.id) ∧ (W4.alloc (.cells #[.int .i64 xx.id] 3)).drew.cell? ⟨b4, 1, none⟩ = some (.int .i64 xx.par)) := ⟨kn _ c0, kn _ c1⟩
      clear c0 c1
      go_region_held3 (fun u => u.cell? ⟨b4, 0, none⟩ = some (.int .i64 xx.id) ∧ u.cell? ⟨b4, 1, none⟩ = some (.int .i64 xx.par)) (first | with_reducible assumption | with_reducible exact unhide k1 | with_reducible exact unhide k2) ((refine step_append_id rfl _ _ rfl (m + 1) i0 hi hz0 hz1 hz2 (V xx.par) L rfl (unhide hO) xx.id 1 rfl (by have := unhide hle; omega) (unhide hms) ?_; intro v1 w1 o1 g1 l1; obtain ⟨w2, hrun2, B2, g2⟩ := unhide HPUT W4 w1 v1 (unhide S) g1 o1 l1; have s1 := unhide hA w1 g1; have s2 := unhide hB w1 w2 s1 g2; have d2 := hide (unhide hC w1 w2 g1 g2); replace B2 := hide B2; have z2 := hide (show m < w2.heap.size from Nat.lt_of_lt_of_le (Nat.lt_of_lt_of_le (unhide hms) g1.size) g2.size); clear o1 g1 l1 g2))
      all_goals
        clear hrun2 s1
        go_wp2_with fail
        go_roundw
        case rel => exact ⟨k + 1, _, by omega, by go_num, B2, z2, d2⟩
        case measure => simp [intOf]; omega
    · have hke : k = n := by omega
      subst hke
      have hki : ¬ (k : Int) < (k : Int) := by omega
      go_wp2_with fail
      go_ret
      exact ⟨m, rfl, ⟨V, unhide S⟩, by have := unhide hm; have := unhide hb1; omega, unhide HB⟩
end Go.Proofs.YtmafopckplpajaaGreatDoor
