/-
  ChangeP · ChangeF · ChangeQ · DropP · ScenesP · RankP · ChangeA · DropI · DropJ · ChangeB · BroodP · QueueP: texts of one claim, in one.
-/
import Derived.Test.YtmafopckplpajaaGreatDoorFnSetsM4
import Derived.Test.YtmafopckplpajaaGreatDoorFnSetsM5
import Derived.Test.YtmafopckplpajaaGreatDoorFnSetsM6
import Derived.Lib.SliceRun
import Derived.Test.YtmafopckplpajaaGreatDoorFnSetsM3
import Derived.Deep.AppendLies

/-
  Changes: what both sides reckon; guarded loads of nodes.
-/
namespace Go.Proofs.YtmafopckplpajaaGreatDoor
open Go.RowKit
set_option linter.unusedVariables false

/-- A scene and a code that are handed back. -/
def ChRes (w : World) (r : Ending) (w' : World) (c : Int) (n : Nat) (X : Nat → Nd) : Prop := ∃ a cc A, r = .returned (.tuple #[.agg #[.slice a n cc], .int .i64 c]) ∧ SG w' w.heap.size w'.heap.size a n cc X A ∧ Below w.heap.size w w'
noncomputable def changeC (X : Nat → Nd) (n : Nat) (id : Int) : Int := if ¬ sceneOkB X n = true then 1 else if firstN X id n < 0 then 2 else 0
noncomputable def setC16 (X : Nat → Nd) (n : Nat) (x : Nd) : Int :=
  if ¬ (sceneOkB X n = true ∧ nodeOkB x = true) then 1 else if firstN X x.id n < 0 then 2 else if x.gr = false ∧ 0 < (kidsL X n x.id).length then 1 else 0
theorem errV_is {c : Int} (h : c ≠ 0) : errV c = .iface 130 (.agg #[.int .i64 c]) := if_neg h
theorem errV_nil : errV 0 = .nilIface := if_pos rfl
theorem load_own_g {ops : Array Oper} {rest : List Oper} {op : Oper} {a : Act} {w : World} {Q : Exit → Act → World → Prop} (hw : Region.wanted op (yielded ops a.tmps) = true) (y : Operand) (ho : op.op = .load 41 y)
    (b : Nat) (hx : a.eval y = .pointer (some ⟨b, 0, none⟩)) (x : Nd) (s : Na) (t : TypeId) (hc : w.heap[b]? = some (.cells (ndC x s) t (0, 0)))
    (h : wpList Tryz.prog ops Q rest (a.put op.dst (.agg (ndC x s))) w) : wpList Tryz.prog ops Q (op :: rest) a w :=
  wpList_step fun K hK => by
    rw [if_pos hw]
    exact wp_load_mid 41 y ho b 0 hx (ndC x s).toList _ (rowRng hc) Tryz.underlying41 rfl (ndC_infoL x s) (by rw [Array.toArray_toList]; exact hK _ _ h)
structure Wf (X : Nat → Nd) (n : Nat) : Prop where
  id : ∀ i, i < n → (Lit.int .i64 (X i).id).wf = true
  par : ∀ i, i < n → (Lit.int .i64 (X i).par).wf = true
theorem own_ty {w : World} {B e s n b : Nat} {v : Value} {xs : List Value} {cs : Array Value} {t : TypeId} {fz : Nat × Nat} (h : w.ownsRow B e s v n xs) (hb : w.heap[b]? = some (.cells cs t fz)) (ht : t ≠ e) : ∀ k, v.ownBlock = some k → k ≠ b := by
  rcases h.2 with ⟨rfl, _⟩ | ⟨g, cap, cur, rfl, _, hg, _⟩
  · intro k e; cases e
  · intro k e e2
    have e1 : g = k := Option.some.inj e
    subst e1
    subst e2
    rw [hg] at hb
    cases hb
    exact ht rfl
theorem lty_sc (l : Nat) : 26 ≠ lty l := by unfold lty; split <;> decide
/-- A variable of another kind can be written without harm to a scene. -/
theorem SG.setk {u : World} {base T n c b j : Nat} {p : Option Addr} {v : Value} {cs : Array Value} {fz : Nat × Nat} {X : Nat → Nd} {A : Nat → Na} (h : SG u base T p n c X A) (hb : u.heap[b]? = some (.cells cs 26 fz)) : SG (u.setCell ⟨b, j, none⟩ v) base T p n c X A :=
  let ⟨ys, h1, h2⟩ := h.row; ⟨⟨ys, own_setc_ne h1 (own_ty h1 hb (by decide)), h2⟩, fun j hj l hl => let ⟨xs, a1, a2⟩ := h.own j hj l hl; ⟨xs, own_setc_ne a1 (own_ty a1 hb (lty_sc l)), a2⟩, h.apt⟩
end Go.Proofs.YtmafopckplpajaaGreatDoor

/-
  Changed scenes are not too great for the laws' words.
-/
namespace Go.Proofs.YtmafopckplpajaaGreatDoor
open Go.RowKit
set_option linter.unusedVariables false

end Go.Proofs.YtmafopckplpajaaGreatDoor

/-
  Nodes of a scene of one's own that are written anew.
-/
namespace Go.Proofs.YtmafopckplpajaaGreatDoor
open Go.RowKit
set_option linter.unusedVariables false

def Nd.withPar (x : Nd) (q : Int) : Nd := { x with par := q }
theorem lvl_par (x : Nd) (q : Int) (s : Na) (l : Nat) : lvl (x.withPar q) s l = lvl x s l := by
  rcases l with _ | _ | _ | _ | l <;> rfl
theorem lnl_par (x : Nd) (q : Int) (l : Nat) : lnl (x.withPar q) l = lnl x l := by
  rcases l with _ | _ | _ | _ | l <;> rfl
theorem lct_par (x : Nd) (q : Int) (l : Nat) (xs : List Value) : lct (x.withPar q) l xs = lct x l xs := by
  rcases l with _ | _ | _ | _ | l <;> rfl
theorem OwnL.withPar {w : World} {base : Nat} {x : Nd} {s : Na} {l : Nat} (h : OwnL w base x s l) (q : Int) : OwnL w base (x.withPar q) s l := by
  obtain ⟨xs, h1, h2⟩ := h
  refine ⟨xs, ?_, ?_⟩
  · rw [lvl_par, lnl_par]; exact h1
  · rw [lct_par]; exact h2
theorem NdG.withPar {w : World} {base : Nat} {x : Nd} {s : Na} (h : NdG w base x s) (q : Int) : NdG w base (x.withPar q) s :=
  ⟨fun l hl => (h.own l hl).withPar q, fun l m hl hm k e1 e2 => h.inj l m hl hm k (by rw [lvl_par] at e1; exact e1) (by rw [lvl_par] at e2; exact e2)⟩
theorem ndC_par (x : Nd) (s : Na) (q : Int) : (ndC x s).setIfInBounds 1 (.int .i64 q) = ndC (x.withPar q) s := by unfold ndC Nd.withPar; simp only [List.setIfInBounds_toArray, List.set_cons_zero, List.set_cons_succ]
/-- Node k of a scene is another one. -/
theorem SG.put {u : World} {base T g n c k B : Nat} {X : Nat → Nd} {A : Nat → Na} {x : Nd} {s : Na} (h : SG u base T (some ⟨g, 0, none⟩) n c X A) (hk : k < n) (hB : base ≤ B) (hT : T ≤ B) (hx : NdG u B x s) :
    SG (u.setCells g (k * 31) (ndC x s).toList) base (u.setCells g (k * 31) (ndC x s).toList).heap.size (some ⟨g, 0, none⟩) n c (upd X k x) (upd A k s) := by
  obtain ⟨ys, h1, h2⟩ := h.row
  have hg := sets_grown g (ndC x s).toList u (k * 31)
  have own : ∀ j, j < n → ∀ l, l < 5 → OwnL (u.setCells g (k * 31) (ndC x s).toList) base (upd X k x j) (upd A k s j) l := fun j hj l hl => by
    by_cases e : j = k
    · subst e; rw [upd_at, upd_at]; exact ((hx.own l hl).low hB).kept hg ((hx.own l hl).off h1)
    · rw [upd_ne _ _ e, upd_ne _ _ e]; exact (h.own j hj l hl).kept hg ((h.own j hj l hl).off h1)
  have row := own_setMany (ndC x s).toList (o := k * 31) h1
  refine ⟨⟨_, row, h2.put hk h1.1 x s⟩, own, fun i j hi hj l m hl hm q e1 e2 => ?_, fun j hj l hl q e => ⟨((own j hj l hl).lt q e).2, (own j hj l hl).row row q e⟩, fun q e => (row.lt q e).2⟩
  by_cases ei : i = k <;> by_cases ej : j = k
  · subst ei; subst ej
    simp only [upd_at] at e1 e2
    exact ⟨rfl, hx.inj l m hl hm q e1 e2⟩
  · subst ei
    simp only [upd_at, upd_ne _ _ ej] at e1 e2
    have := ((hx.own l hl).lt q e1).1
    have := (h.apt.blk j hj m hm q e2).1
    omega
  · subst ej
    simp only [upd_at, upd_ne _ _ ei] at e1 e2
    have := ((hx.own m hm).lt q e2).1
    have := (h.apt.blk i hi l hl q e1).1
    omega
  · simp only [upd_ne _ _ ei, upd_ne _ _ ej] at e1 e2
    exact h.apt.inj i j hi hj l m hl hm q e1 e2
/-- Node k of a scene has another Parent. -/
theorem SG.putPar {u : World} {base T g n c k : Nat} {X : Nat → Nd} {A : Nat → Na} (h : SG u base T (some ⟨g, 0, none⟩) n c X A) (hk : k < n) (q : Int) : SG (u.setCell ⟨g, k * 31 + 1, none⟩ (.int .i64 q)) base T (some ⟨g, 0, none⟩) n c (upd X k ((X k).withPar q)) A := by
  obtain ⟨ys, h1, h2⟩ := h.row
  have hg := setc_grown u g (k * 31 + 1) (.int .i64 q)
  have hl0 := h1.1
  refine ⟨⟨_, (h1.stored (k * 31 + 1) _).1, fun j hj m v hv => ?_⟩, fun j hj l hl => ?_, fun i j hi hj l m hl hm r e1 e2 => ?_, fun j hj l hl r e => ?_, h.apt.row⟩
  · have hm : m < 31 := by have := (Array.getElem?_eq_some_iff.1 hv).1; rwa [ndC_size] at this
    by_cases e : j = k
    · subst e
      rw [upd_at, ← ndC_par] at hv
      by_cases em : m = 1
      · subst em
        rw [List.getElem?_set_self (by omega)]
        rw [Array.getElem?_setIfInBounds_self_of_lt (by rw [ndC_size]; omega)] at hv
        exact hv
      · rw [List.getElem?_set_ne (by omega)]
        rw [Array.getElem?_setIfInBounds_ne (by omega)] at hv
        exact h2 j hj m v hv
    · rw [upd_ne _ _ e] at hv
      rw [List.getElem?_set_ne (by omega)]
      exact h2 j hj m v hv
  · have o := (h.own j hj l hl).kept hg ((h.own j hj l hl).off h1)
    by_cases e : j = k
    · subst e; rw [upd_at]; exact o.withPar q
    · rw [upd_ne _ _ e]; exact o
  · have f : ∀ t l, lvl (upd X k ((X k).withPar q) t) (A t) l = lvl (X t) (A t) l := fun t l => by
      by_cases e : t = k
      · subst e; rw [upd_at, lvl_par]
      · rw [upd_ne _ _ e]
    simp only [f] at e1 e2
    exact h.apt.inj i j hi hj l m hl hm r e1 e2
  · have f : ∀ t l, lvl (upd X k ((X k).withPar q) t) (A t) l = lvl (X t) (A t) l := fun t l => by
      by_cases e : t = k
      · subst e; rw [upd_at, lvl_par]
      · rw [upd_ne _ _ e]
    simp only [f] at e
    exact h.apt.blk j hj l hl r e
noncomputable def setX (X : Nat → Nd) (n : Nat) (x : Nd) : Nat → Nd := if setC16 X n x = 0 then upd X (firstN X x.id n).toNat (x.withPar (X (firstN X x.id n).toNat).par) else X
theorem upd_twice {α : Type} (f : Nat → α) (k : Nat) (v v' : α) : upd (upd f k v) k v' = upd f k v' := by
  funext j
  by_cases e : j = k
  · subst e; rw [upd_at, upd_at]
  · rw [upd_ne _ _ e, upd_ne _ _ e, upd_ne _ _ e]
theorem set_ok {X : Nat → Nd} {n : Nat} {x : Nd} (h : setC16 X n x = 0) : ScOk X n ∧ nodeOkB x = true ∧ ¬ firstN X x.id n < 0 ∧ ¬ (x.gr = false ∧ 0 < (kidsL X n x.id).length) := by
  unfold setC16 at h
  split at h
  · cases h
  · next h1 =>
    have h1' := Classical.not_not.1 h1
    split at h
    · cases h
    · next h2 =>
      split at h
      · cases h
      · next h3 => exact ⟨sceneOk_iff.1 h1'.1, h1'.2, h2, h3⟩
theorem par_fit (x : Nd) (q : Int) (h : x.Small) : (x.withPar q).Small := ⟨h.nv, h.np, h.nd, h.mv, h.mp⟩
end Go.Proofs.YtmafopckplpajaaGreatDoor

/-
  Nodes that are dropped: what both sides reckon.
-/
namespace Go.Proofs.YtmafopckplpajaaGreatDoor
open Go.RowKit
set_option linter.unusedVariables false

/-- The places that are kept of the first k. -/
def keepI (q : Nat → Bool) : Nat → List Nat
  | 0 => []
  | k + 1 => if q k = true then keepI q k else keepI q k ++ [k]
theorem keep_le (q : Nat → Bool) : ∀ k, (keepI q k).length ≤ k
  | 0 => Nat.le_refl _
  | k + 1 => by
    have := keep_le q k
    unfold keepI
    split
    · omega
    · simp; omega
theorem keep_lt (q : Nat → Bool) : ∀ k i, i ∈ keepI q k → i < k ∧ q i = false
  | 0, i, h => by cases h
  | k + 1, i, h => by
    unfold keepI at h
    split at h
    · have := keep_lt q k i h; exact ⟨by omega, this.2⟩
    · next hq =>
      rcases List.mem_append.1 h with h | h
      · have := keep_lt q k i h; exact ⟨by omega, this.2⟩
      · obtain rfl := List.mem_singleton.1 h
        exact ⟨by omega, by simpa using hq⟩
theorem keep_nodup (q : Nat → Bool) : ∀ k, (keepI q k).Nodup
  | 0 => List.nodup_nil
  | k + 1 => by
    unfold keepI
    split
    · exact keep_nodup q k
    · refine List.nodup_append.2 ⟨keep_nodup q k, by simp, fun a ha b hb => ?_⟩
      have e := List.mem_singleton.1 hb
      have := (keep_lt q k a ha).1
      omega
theorem keep_yes {q : Nat → Bool} {k : Nat} (h : q k = true) : keepI q (k + 1) = keepI q k := if_pos h
theorem keep_no {q : Nat → Bool} {k : Nat} (h : q k = false) : keepI q (k + 1) = keepI q k ++ [k] := if_neg (by rw [h]; decide)
/-- The things at these places. -/
def pickF {α : Type} (f : Nat → α) (L : List Nat) : Nat → α := fun j => f (L.getD j 0)
theorem pickF_at {α : Type} (f : Nat → α) (L : List Nat) {j : Nat} (h : j < L.length) : pickF f L j = f L[j] := by
  unfold pickF; simp [List.getD, List.getElem?_eq_getElem h]
theorem pickF_snoc {α : Type} (f : Nat → α) (L : List Nat) (k : Nat) {j : Nat} (h : j < L.length + 1) : upd (pickF f L) L.length (f k) j = pickF f (L ++ [k]) j := by
  by_cases e : j = L.length
  · subst e
    rw [upd_at, pickF_at f (L ++ [k]) (by simp)]
    simp
  · rw [upd_ne _ _ e, pickF_at f L (by omega), pickF_at f (L ++ [k]) (by simp; omega), List.getElem_append_left (by omega)]
theorem SG.congr {w : World} {base T n c : Nat} {a : Option Addr} {X X' : Nat → Nd} {A A' : Nat → Na} (h : SG w base T a n c X A) (hX : ∀ j, j < n → X j = X' j) (hA : ∀ j, j < n → A j = A' j) : SG w base T a n c X' A' := by
  obtain ⟨ys, h1, h2⟩ := h.row
  refine ⟨⟨ys, h1, fun j hj m v hv => h2 j hj m v (by rw [hX j hj, hA j hj]; exact hv)⟩, fun j hj l hl => by rw [← hX j hj, ← hA j hj]; exact h.own j hj l hl, fun i j hi hj l m hl hm k e1 e2 => ?_, fun j hj l hl k e => ?_, h.apt.row⟩
  · rw [← hX i hi, ← hA i hi] at e1
    rw [← hX j hj, ← hA j hj] at e2
    exact h.apt.inj i j hi hj l m hl hm k e1 e2
  · rw [← hX j hj, ← hA j hj] at e
    exact h.apt.blk j hj l hl k e
end Go.Proofs.YtmafopckplpajaaGreatDoor

/-
  Scenes that grow by a node, or whose first node goes to the end: they stay right.
-/
namespace Go.Proofs.YtmafopckplpajaaGreatDoor
set_option linter.unusedVariables false

/-- Two scenes that agree at all Ids of S, which has the parents of its nodes: depths are the same. -/
theorem depth_congr {X Y : Nat → Nd} {n m : Nat} {S : Int → Prop}
    (h : ∀ id, S id → id ≠ 0 → (firstN X id n < 0 ↔ firstN Y id m < 0) ∧ (¬ firstN X id n < 0 → (X (firstN X id n).toNat).par = (Y (firstN Y id m).toNat).par ∧ S (X (firstN X id n).toNat).par)) :
    ∀ (f : Nat) (c id : Int), S id → depthN X n f c id = depthN Y m f c id
  | 0, _, _, _ => rfl
  | f + 1, c, id, hs => by
    rw [depthN_succ, depthN_succ]
    by_cases h0 : id = 0
    · rw [if_pos h0, if_pos h0]
    · rw [if_neg h0, if_neg h0]
      obtain ⟨h1, h2⟩ := h id hs h0
      by_cases h3 : firstN X id n < 0
      · rw [if_pos h3, if_pos (h1.1 h3)]
      · rw [if_neg h3, if_neg (fun e => h3 (h1.2 e)), ← (h2 h3).1]
        exact depth_congr h f (c + 1) _ (h2 h3).2
theorem first_lt {X : Nat → Nd} {id : Int} {n : Nat} (h : ¬ firstN X id n < 0) : ∃ k, k < n ∧ firstN X id n = (k : Int) ∧ (X k).id = id := by
  rcases first_is (X := X) (id := id) n with ⟨e, _⟩ | ⟨k, hk, e, e1, _⟩
  · omega
  · exact ⟨k, hk, e, e1⟩
/-- Where the Ids differ, the first is the only one. -/
theorem first_only {X : Nat → Nd} {n k : Nat} (hu : ∀ i j, i < n → j < n → (X i).id = (X j).id → i = j) (hk : k < n) : firstN X (X k).id n = (k : Int) := by
  refine first_at (fun j hj e => ?_) rfl hk
  have := hu j k (by omega) hk e
  omega
theorem ScOk.uniq {X : Nat → Nd} {n : Nat} (h : ScOk X n) : ∀ i j, i < n → j < n → (X i).id = (X j).id → i = j := fun i j hi hj e => by
  have a := (okAt_iff.1 (h.2 i hi)).2.1
  have b := (okAt_iff.1 (h.2 j hj)).2.1
  rw [e, b] at a
  omega
theorem par_in {X : Nat → Nd} {n i : Nat} (h : ScOk X n) (hi : i < n) : (X i).par = 0 ∨ ∃ k, k < n ∧ (X k).id = (X i).par ∧ (X k).gr = true := by
  obtain ⟨_, _, _, h4⟩ := okAt_iff.1 (h.2 i hi)
  rcases h4 with h4 | ⟨h4, h5⟩
  · exact .inl h4
  · obtain ⟨k, hk, e, e1⟩ := first_lt (X := X) (n := n) (id := (X i).par) (by omega)
    rw [e] at h5
    exact .inr ⟨k, hk, e1, h5⟩
/-- A depth d is found within d + 1 - c steps. -/
theorem depth_fuel {X : Nat → Nd} {n : Nat} : ∀ {f : Nat} {c id : Int}, 0 ≤ c → 0 < depthN X n f c id → ∀ g : Nat, depthN X n f c id - c < (g : Int) → depthN X n g c id = depthN X n f c id
  | 0, c, id, _, h, _, _ => absurd h (by show ¬ (0 : Int) < 0; omega)
  | f + 1, c, id, hc, h, g, hg => by
    rw [depthN_succ] at h hg ⊢
    by_cases h0 : id = 0
    · rw [if_pos h0] at h hg ⊢
      obtain ⟨q, rfl⟩ : ∃ q, g = q + 1 := ⟨g - 1, by omega⟩
      rw [depthN_succ, if_pos h0]
    · rw [if_neg h0] at h hg ⊢
      by_cases h1 : firstN X id n < 0
      · rw [if_pos h1] at h; omega
      · rw [if_neg h1] at h hg ⊢
        have hle := (depth_more (X := X) (n := n) (f := f) (c := c + 1) (id := (X (firstN X id n).toNat).par) (by omega) (by omega)).1
        obtain ⟨q, rfl⟩ : ∃ q, g = q + 1 := ⟨g - 1, by omega⟩
        rw [depthN_succ, if_neg h0, if_neg h1]
        exact depth_fuel (by omega) h q (by omega)
theorem depth_short {X : Nat → Nd} {n k : Nat} (hS : ScOk X n) (hn : n ≤ 8) (hk : k < n) : depthN X n 8 (0 + 1) (X k).id = depthI X n (X k).id + 1 := by
  obtain ⟨g1, g2, ⟨g3, g4⟩, _⟩ := okAt_iff.1 (hS.2 k hk)
  unfold depthI at g3 g4 ⊢
  have e := depth_fuel (X := X) (n := n) (f := 9) (c := 0) (id := (X k).id) (by omega) (by omega) 8 (by omega)
  have hid := (node_ids g1).1
  have e1 : depthN X n 8 0 (X k).id = depthN X n 7 (0 + 1) (X k).par := by
    rw [depthN_succ, if_neg (by omega), g2, if_neg (by omega)]
    rfl
  have h7 : depthN X n 7 (0 + 1) (X k).par ≠ 0 := by rw [← e1, e]; omega
  have e2 : depthN X n 8 (0 + 1) (X k).id = depthN X n 7 (0 + 1 + 1) (X k).par := by
    rw [depthN_succ, if_neg (by omega), g2, if_neg (by omega)]
    rfl
  rw [e2, (depth_more (by omega) h7).2 7 (0 + 1 + 1) (Nat.le_refl _), ← e1, e]
  omega
/-- One node more at the end. -/
theorem scOk_snoc {X Y : Nat → Nd} {n : Nat} (hS : ScOk X n) (hn : n < 8) (hY : ∀ i, i < n → Y i = X i) (hx : nodeOkB (Y n) = true) (hid : ∀ i, i < n → (X i).id ≠ (Y n).id)
    (hp : (Y n).par = 0 ∨ ∃ k, k < n ∧ (X k).id = (Y n).par ∧ (X k).gr = true ∧ depthI X n (X k).id < 4) : ScOk Y (n + 1) := by
  have hu : ∀ i j, i < n + 1 → j < n + 1 → (Y i).id = (Y j).id → i = j := by
    intro i j hi hj e
    by_cases hi2 : i = n
    · by_cases hj2 : j = n
      · omega
      · rw [hi2, hY j (by omega)] at e; exact absurd e.symm (hid j (by omega))
    · by_cases hj2 : j = n
      · rw [hj2, hY i (by omega)] at e; exact absurd e (hid i (by omega))
      · rw [hY i (by omega), hY j (by omega)] at e; exact hS.uniq i j (by omega) (by omega) e
  have hold : ∀ (f : Nat) (c id : Int), (id = 0 ∨ ∃ k, k < n ∧ (X k).id = id) → depthN X n f c id = depthN Y (n + 1) f c id := by
    refine depth_congr (S := fun id => id = 0 ∨ ∃ k, k < n ∧ (X k).id = id) ?_
    intro id hs h0
    rcases hs with hs | ⟨k, hk, rfl⟩
    · exact absurd hs h0
    · have e1 := first_only hS.uniq hk
      have e2 : firstN Y (X k).id (n + 1) = (k : Int) := by rw [← hY k hk]; exact first_only hu (by omega)
      rw [e1, e2]
      refine ⟨Iff.rfl, fun _ => ?_⟩
      show (X k).par = (Y k).par ∧ _
      rw [hY k hk]
      refine ⟨rfl, ?_⟩
      rcases par_in hS hk with h | ⟨q, hq, e, _⟩
      · exact .inl h
      · exact .inr ⟨q, hq, e⟩
  have hid9 := (node_ids hx).1
  refine ⟨by omega, fun i hi => okAt_iff.2 ?_⟩
  by_cases hin : i = n
  · subst hin
    refine ⟨hx, first_only hu (by omega), ?_, ?_⟩
    · have e : depthI Y (i + 1) (Y i).id = depthN Y (i + 1) 8 (0 + 1) (Y i).par := by
        unfold depthI
        rw [depthN_succ, if_neg (by omega), first_only hu (by omega), if_neg (by omega)]
        rfl
      rw [e]
      rcases hp with hp | ⟨k, hk, e1, _, e3⟩
      · rw [hp]
        exact ⟨by show 1 ≤ (0 : Int) + 1; omega, by show (0 : Int) + 1 ≤ 4; omega⟩
      · have h9 := (okAt_iff.1 (hS.2 k hk)).2.2.1
        have e4 : depthN Y (i + 1) 9 0 (Y i).par = depthI X i (X k).id := by
          rw [← e1]
          exact (hold 9 0 (X k).id (.inr ⟨k, hk, rfl⟩)).symm
        -- the parent stands within eight steps, too: its depth is less than four
        have e5 : depthN X i 8 (0 + 1) (X k).id = depthI X i (X k).id + 1 := by
          exact depth_short hS (by omega) hk
        have e6 : depthN Y (i + 1) 8 (0 + 1) (Y i).par = depthN X i 8 (0 + 1) (X k).id := by
          rw [← e1]
          exact (hold 8 (0 + 1) (X k).id (.inr ⟨k, hk, rfl⟩)).symm
        rw [e6, e5]
        omega
    · rcases hp with hp | ⟨k, hk, e1, e2, _⟩
      · exact .inl hp
      · right
        have e4 : firstN Y (Y i).par (i + 1) = (k : Int) := by rw [← e1, ← hY k hk]; exact first_only hu (by omega)
        rw [e4]
        exact ⟨by omega, by show (Y k).gr = true; rw [hY k hk]; exact e2⟩
  · have hi2 : i < n := by omega
    obtain ⟨g1, g2, g3, g4⟩ := okAt_iff.1 (hS.2 i hi2)
    rw [hY i hi2]
    refine ⟨g1, by rw [← hY i hi2]; exact first_only hu hi, ?_, ?_⟩
    · have : depthI Y (n + 1) (X i).id = depthI X n (X i).id := (hold 9 0 (X i).id (.inr ⟨i, hi2, rfl⟩)).symm
      rw [this]; exact g3
    · rcases par_in hS hi2 with h | ⟨q, hq, e, eg⟩
      · exact .inl h
      · right
        have e4 : firstN Y (X i).par (n + 1) = (q : Int) := by rw [← e, ← hY q hq]; exact first_only hu (by omega)
        rw [e4]
        exact ⟨by omega, by show (Y q).gr = true; rw [hY q hq]; exact eg⟩
/-- The same nodes in another order. -/
theorem scOk_perm {X Y : Nat → Nd} {n : Nat} (hS : ScOk X n) (σ τ : Nat → Nat) (hσ : ∀ i, i < n → σ i < n ∧ τ (σ i) = i ∧ Y i = X (σ i)) (hτ : ∀ j, j < n → τ j < n ∧ σ (τ j) = j) : ScOk Y n := by
  have hY : ∀ j, j < n → Y (τ j) = X j := fun j hj => by rw [(hσ _ (hτ j hj).1).2.2, (hτ j hj).2]
  have hu : ∀ i j, i < n → j < n → (Y i).id = (Y j).id → i = j := by
    intro i j hi hj e
    rw [(hσ i hi).2.2, (hσ j hj).2.2] at e
    have := hS.uniq _ _ (hσ i hi).1 (hσ j hj).1 e
    rw [← (hσ i hi).2.1, ← (hσ j hj).2.1, this]
  have hf : ∀ k, k < n → firstN Y (X k).id n = (τ k : Int) := fun k hk => by rw [← hY k hk]; exact first_only hu (hτ k hk).1
  have hold : ∀ (f : Nat) (c id : Int), (id = 0 ∨ ∃ k, k < n ∧ (X k).id = id) → depthN X n f c id = depthN Y n f c id := by
    refine depth_congr (S := fun id => id = 0 ∨ ∃ k, k < n ∧ (X k).id = id) ?_
    intro id hs h0
    rcases hs with hs | ⟨k, hk, rfl⟩
    · exact absurd hs h0
    · rw [first_only hS.uniq hk, hf k hk]
      refine ⟨by omega, fun _ => ?_⟩
      show (X k).par = (Y (τ k)).par ∧ _
      rw [hY k hk]
      refine ⟨rfl, ?_⟩
      rcases par_in hS hk with h | ⟨q, hq, e, _⟩
      · exact .inl h
      · exact .inr ⟨q, hq, e⟩
  refine ⟨hS.1, fun i hi => okAt_iff.2 ?_⟩
  obtain ⟨h1, _, h3⟩ := hσ i hi
  obtain ⟨g1, g2, g3, g4⟩ := okAt_iff.1 (hS.2 (σ i) h1)
  refine ⟨by rw [h3]; exact g1, first_only hu hi, ?_, ?_⟩
  · have : depthI Y n (X (σ i)).id = depthI X n (X (σ i)).id := (hold 9 0 _ (.inr ⟨σ i, h1, rfl⟩)).symm
    rw [h3, this]; exact g3
  · rw [h3]
    rcases par_in hS h1 with h | ⟨q, hq, e, eg⟩
    · exact .inl h
    · right
      rw [← e, hf q hq]
      exact ⟨by omega, by show (Y (τ q)).gr = true; rw [hY q hq]; exact eg⟩
theorem scOk_nil (X : Nat → Nd) : ScOk X 0 := ⟨by omega, fun i hi => absurd hi (by omega)⟩
end Go.Proofs.YtmafopckplpajaaGreatDoor

/-
  Right scenes by a rank of their nodes; set and dropped scenes stay right.
-/
namespace Go.Proofs.YtmafopckplpajaaGreatDoor
open Go.RowKit
set_option linter.unusedVariables false

/-- Each node's rank is one more than its parent's. -/
structure Ranked (X : Nat → Nd) (n : Nat) (d : Int → Int) : Prop where
  few : n ≤ 8
  ok : ∀ i, i < n → nodeOkB (X i) = true
  uniq : ∀ i j, i < n → j < n → (X i).id = (X j).id → i = j
  step : ∀ i, i < n → ((X i).par = 0 ∧ d (X i).id = 1) ∨ (∃ k, k < n ∧ (X k).id = (X i).par ∧ (X k).gr = true ∧ d (X i).id = d (X i).par + 1)
theorem Ranked.depth {X : Nat → Nd} {n : Nat} {d : Int → Int} (h : Ranked X n d) (hd : ∀ i, i < n → 1 ≤ d (X i).id) : ∀ (f : Nat) (i : Nat) (c : Int), i < n → d (X i).id < (f : Int) → depthN X n f c (X i).id = c + d (X i).id := by
  intro f
  induction f with
  | zero => intro i c hi h2; have := hd i hi; omega
  | succ f ih =>
    intro i c hi h2
    have hid := (node_ids (h.ok i hi)).1
    rw [depthN_succ, if_neg (by omega), first_only h.uniq hi, if_neg (by omega), Int.toNat_natCast]
    rcases h.step i hi with ⟨e, e1⟩ | ⟨k, hk, e, _, e1⟩
    · rw [e, e1]
      cases f with
      | zero => omega
      | succ f => rw [depthN_succ, if_pos rfl]
    · rw [← e] at e1
      rw [← e, ih k (c + 1) hk (by omega), e1]
      omega
theorem Ranked.right {X : Nat → Nd} {n : Nat} {d : Int → Int} (h : Ranked X n d) (hd : ∀ i, i < n → 1 ≤ d (X i).id ∧ d (X i).id ≤ 4) : ScOk X n := by
  refine ⟨h.few, fun i hi => okAt_iff.2 ⟨h.ok i hi, first_only h.uniq hi, ?_, ?_⟩⟩
  · have := hd i hi
    have e := h.depth (fun i hi => (hd i hi).1) 9 i 0 hi (by omega)
    unfold depthI
    rw [e]
    omega
  · rcases h.step i hi with ⟨e, _⟩ | ⟨k, hk, e, hg, _⟩
    · exact .inl e
    · refine .inr ?_
      rw [← e, first_only h.uniq hk, Int.toNat_natCast]
      exact ⟨by omega, hg⟩
theorem ScOk.ranked {X : Nat → Nd} {n : Nat} (hS : ScOk X n) : Ranked X n (depthI X n) := by
  refine ⟨hS.1, fun i hi => (okAt_iff.1 (hS.2 i hi)).1, hS.uniq, fun i hi => ?_⟩
  have e := depth_step hS hi
  rcases par_in hS hi with h | ⟨k, hk, h1, h2⟩
  · exact .inl ⟨h, by rw [e, h, depth_zero]; rfl⟩
  · exact .inr ⟨k, hk, h1, h2, e⟩
theorem ScOk.deep {X : Nat → Nd} {n : Nat} (hS : ScOk X n) : ∀ i, i < n → 1 ≤ depthI X n (X i).id ∧ depthI X n (X i).id ≤ 4 := fun i hi => (okAt_iff.1 (hS.2 i hi)).2.2.1
/-- A scene stays right where a node is set. -/
theorem scOk_set {X : Nat → Nd} {n k : Nat} {x : Nd} (hS : ScOk X n) (hk : k < n) (hx : nodeOkB x = true) (hid : x.id = (X k).id) (hp : nodeOkB (x.withPar (X k).par) = true) (hg : x.gr = true ∨ ∀ i, i < n → (X i).par ≠ x.id) : ScOk (upd X k (x.withPar (X k).par)) n := by
  have idE : ∀ i, (upd X k (x.withPar (X k).par) i).id = (X i).id := fun i => by
    by_cases e : i = k
    · subst e; rw [upd_at]; exact hid
    · rw [upd_ne _ _ e]
  have parE : ∀ i, (upd X k (x.withPar (X k).par) i).par = (X i).par := fun i => by
    by_cases e : i = k
    · subst e; rw [upd_at]; rfl
    · rw [upd_ne _ _ e]
  have r := hS.ranked
  refine Ranked.right (d := depthI X n) ⟨r.few, fun i hi => ?_, fun i j hi hj e => r.uniq i j hi hj (by rw [idE, idE] at e; exact e), fun i hi => ?_⟩ (fun i hi => by rw [idE]; exact hS.deep i hi)
  · by_cases e : i = k
    · subst e; rw [upd_at]; exact hp
    · rw [upd_ne _ _ e]; exact r.ok i hi
  · rw [idE, parE]
    rcases r.step i hi with h | ⟨j, hj, e1, e2, e3⟩
    · exact .inl h
    · refine .inr ⟨j, hj, by rw [idE]; exact e1, ?_, e3⟩
      by_cases e : j = k
      · subst e
        rw [upd_at]
        rcases hg with h | h
        · exact h
        · exact absurd (by rw [hid]; exact e1.symm) (h i hi)
      · rw [upd_ne _ _ e]; exact e2
end Go.Proofs.YtmafopckplpajaaGreatDoor

/-
  The program's mayChange, mayCreate, maySet.
-/
namespace Go.Proofs.YtmafopckplpajaaGreatDoor
open Go.RowKit
set_option linter.unusedVariables false

set_option maxHeartbeats 4000000 in
theorem implMayChange_any (X : Nat → Nd) (A : Nat → Na) (ao : Option Addr) (n cp : Nat) (hn : n ≤ 1048576) (hs : ∀ i, i < n → (X i).Small) (hw : Wf X n) (id : Int) (w : World) (P : ∀ i, i < n → NrAt w ao i (X i) (A i)) :
    Calls Tryz.prog 55 #[.agg #[.slice ao n cp], .int .i64 id] w fun r w' => r = .returned (errV (changeC X n id)) ∧ Below w.heap.size w w' := by
  have E1 := hide (fun u => implSceneOk_any X A ao n cp hn hs hw.id hw.par u)
  have E2 := hide (fun u => implNodeAt_any X A ao n cp hn id u)
  replace P := hide P
  clear hs hw
  obtain ⟨C, hC⟩ : ∃ C, Hid (C = errV (changeC X n id)) := ⟨_, rfl⟩
  rw [← unhide hC]
  have hC' := hide (show C = errV (if ¬ sceneOkB X n = true then 1 else if firstN X id n < 0 then 2 else 0) from unhide hC)
  clear hC
  go_enter Tryz.func55, Tryz.ntmps55
  go_upto_region 1 with fail
  have R := hide (new_row w (.cells #[.slice ao n cp] 26))
  have HB := hide (al1_below w (.cells #[.slice ao n cp] 26))
  obtain ⟨b1, hb1⟩ : ∃ z, Hid (z = w.heap.size) := ⟨_, rfl⟩
  rw [← unhide hb1] at R ⊢
  clear hb1
  generalize w.alloc (.cells #[.slice ao n cp] 26) = W at R HB ⊢
  have c0 := row1 (unhide R)
  go_wp2_with fail
  go_fit (unhide E1 _ (fun i hi => (unhide P i hi).next (unhide HB)))
  rintro r u1 ⟨rfl, hb⟩
  replace R := hide (row_next hb (unhide R))
  replace HB := hide (below_two (unhide HB) hb)
  clear hb c0 E1
  cases hok : sceneOkB X n with
  | false =>
    rw [hok, if_pos (by simp)] at hC'
    rw [errV_is (by decide)] at hC'
    clear hok
    go_wp2_with fail
    go_ret
    exact ⟨by rw [unhide hC']; rfl, unhide HB⟩
  | true =>
    rw [hok, if_neg (by simp)] at hC'
    clear hok
    have c0 := row1 (unhide R)
    go_wp2_with fail
    go_fit (unhide E2 _ (fun i hi => (unhide P i hi).next (unhide HB)))
    rintro r u2 ⟨rfl, hb⟩
    replace HB := hide (below_two (unhide HB) hb)
    clear hb c0 E2
    by_cases hf : firstN X id n < 0
    · rw [if_pos hf, errV_is (by decide)] at hC'
      generalize firstN X id n = Z at hf ⊢
      go_wp2_with fail
      go_ret
      exact ⟨by rw [unhide hC']; rfl, unhide HB⟩
    · rw [if_neg hf, errV_nil] at hC'
      generalize firstN X id n = Z at hf ⊢
      go_wp2_with fail
      go_ret
      exact ⟨by rw [unhide hC']; rfl, unhide HB⟩

theorem ids_len {w w' : World} {r : Ending} {L : List Int} (h : IdsRes w r w' L) : ∃ p cp, r = .returned (.slice p L.length cp) ∧ Below w.heap.size w w' := let ⟨p, cp, h1, _, h3⟩ := h; ⟨p, cp, h1, h3⟩

set_option maxHeartbeats 8000000 in
set_option maxRecDepth 100000 in
theorem implMaySet_any (X : Nat → Nd) (A : Nat → Na) (ao : Option Addr) (n cp : Nat) (hn : n ≤ 1048576) (hs : ∀ i, i < n → (X i).Small) (hw : Wf X n) (x : Nd) (s : Na) (hx : x.Small) (w : World) (P : ∀ i, i < n → NrAt w ao i (X i) (A i)) (H : NdIn w x s) :
    Calls Tryz.prog 72 #[.agg #[.slice ao n cp], .agg (ndC x s)] w fun r w' => r = .returned (errV (setC16 X n x)) ∧ Below w.heap.size w w' := by
  have E1 := hide (fun u => implNodeOk_c x s hx u)
  have E2 := hide (fun u => implMayChange_any X A ao n cp hn hs hw x.id u)
  have E3 := hide (fun u P => (implKidsOf_any X A ao n cp hn x.id u P).mono fun _ _ h => ids_len h)
  have hL := hide (show (kidsL X n x.id).length ≤ n from pick_le X _ n)
  replace P := hide P
  replace H := hide H
  clear hs hw hx
  obtain ⟨C, hC⟩ : ∃ C, Hid (C = errV (setC16 X n x)) := ⟨_, rfl⟩
  rw [← unhide hC]
  have hC' := hide (show C = errV (if ¬ (sceneOkB X n = true ∧ nodeOkB x = true) then 1 else if firstN X x.id n < 0 then 2 else if x.gr = false ∧ 0 < (kidsL X n x.id).length then 1 else 0) from unhide hC)
  clear hC
  go_enter Tryz.func72, Tryz.ntmps72
  go_upto_region 1 with fail
  have R1 := hide (al2_0 w (.cells #[.slice ao n cp] 26) (.cells (ndC x s) 41))
  have R2 := hide (al2_1 w (.cells #[.slice ao n cp] 26) (.cells (ndC x s) 41))
  have HB := hide (al2_below w (.cells #[.slice ao n cp] 26) (.cells (ndC x s) 41))
  obtain ⟨b2, hb2⟩ : ∃ b, Hid (b = w.heap.size + 1) := ⟨_, rfl⟩
  obtain ⟨b1, hb1⟩ : ∃ b, Hid (b = w.heap.size) := ⟨_, rfl⟩
  rw [← unhide hb2] at R2
  rw [← unhide hb1] at R1
  rw [← unhide hb2, ← unhide hb1]
  generalize (w.alloc (.cells #[.slice ao n cp] 26)).alloc (.cells (ndC x s) 41) = W at R1 R2 HB ⊢
  clear hb2 hb1
  go_wp2_with (refine load_own rfl _ rfl b2 rfl x s 41 (unhide R2) ?_)
  go_fit (unhide E1 _ ((unhide H).next (unhide HB)))
  rintro r u1 ⟨rfl, hb⟩
  replace R1 := hide (row_next hb (unhide R1))
  replace R2 := hide (row_next hb (unhide R2))
  replace HB := hide (below_two (unhide HB) hb)
  clear hb E1
  cases hok : nodeOkB x with
  | false =>
    rw [hok, if_pos (by simp), errV_is (by decide)] at hC'
    clear hok
    go_wp2_with fail
    go_ret
    exact ⟨by rw [unhide hC']; rfl, unhide HB⟩
  | true =>
    rw [hok] at hC'
    clear hok
    have c0 := row1 (unhide R1)
    obtain ⟨d0, d1, d2⟩ := headsC (unhide R2)
    have F2 := hide (unhide E2 _ (fun i hi => (unhide P i hi).next (unhide HB)))
    go_wp2_with fail
    go_fit (unhide F2)
    rintro r u2 ⟨rfl, hb⟩
    replace R1 := hide (row_next hb (unhide R1))
    replace R2 := hide (row_next hb (unhide R2))
    replace HB := hide (below_two (unhide HB) hb)
    clear hb c0 d0 d1 d2 E2 F2
    cases hok : sceneOkB X n with
    | false =>
      rw [hok, if_pos (by simp), errV_is (by decide)] at hC'
      rw [show changeC X n x.id = 1 from if_pos (by rw [hok]; simp), errV_is (by decide)]
      clear hok
      go_wp2_with fail
      go_ret
      exact ⟨by rw [unhide hC']; rfl, unhide HB⟩
    | true =>
      rw [hok, if_neg (by simp)] at hC'
      rw [show changeC X n x.id = (if firstN X x.id n < 0 then 2 else 0) from if_neg (by rw [hok]; simp)]
      clear hok
      by_cases hf : firstN X x.id n < 0
      · rw [if_pos hf, errV_is (by decide)] at hC'
        rw [if_pos hf, errV_is (by decide)]
        clear hf
        go_wp2_with fail
        go_ret
        exact ⟨by rw [unhide hC']; rfl, unhide HB⟩
      · rw [if_neg hf] at hC'
        rw [if_neg hf, errV_nil]
        clear hf
        have c0 := row1 (unhide R1)
        obtain ⟨d0, d1, d2⟩ := headsC (unhide R2)
        cases hg : x.gr with
        | true =>
          rw [hg] at d2
          rw [hg, if_neg (by simp), errV_nil] at hC'
          go_wp2_with fail
          go_ret
          exact ⟨by rw [unhide hC']; rfl, unhide HB⟩
        | false =>
          rw [hg] at d2
          rw [hg] at hC'
          have F3 := hide (unhide E3 _ (fun i hi => (unhide P i hi).next (unhide HB)))
          go_wp2_with fail
          go_fit (unhide F3)
          rintro r u3 ⟨p, cp', rfl, hb⟩
          replace HB := hide (below_two (unhide HB) hb)
          clear hb F3 c0 d0 d1 d2 hg
          by_cases h0 : 0 < (kidsL X n x.id).length
          · rw [if_pos (by simp [h0]), errV_is (by decide)] at hC'
            have h0' : (0 : Int) < ((kidsL X n x.id).length : Int) := by omega
            go_wp2_with fail
            go_ret
            exact ⟨by rw [unhide hC']; rfl, unhide HB⟩
          · rw [if_neg (fun e => h0 e.2), errV_nil] at hC'
            have h0' : ¬ (0 : Int) < ((kidsL X n x.id).length : Int) := by omega
            go_wp2_with fail
            go_ret
            exact ⟨by rw [unhide hC']; rfl, unhide HB⟩
end Go.Proofs.YtmafopckplpajaaGreatDoor

/-
  The program's words for dropping: slices.Index, Contains, IndexFunc, DeleteFunc, clear.
-/
namespace Go.Proofs.YtmafopckplpajaaGreatDoor
open Go.RowKit
set_option linter.unusedVariables false

/-- The list of what is under a node, in its variable. -/
structure HU (u : World) (B b8 : Nat) (pu : Option Addr) (m cu : Nat) (f : Nat → Int) : Prop where
  row : u.heap[b8]? = some (.cells #[.slice pu m cu] 30 (0, 0))
  own : OwnI u B (.slice pu m cu) m f
theorem HU.next {u u' : World} {B b8 m cu : Nat} {pu : Option Addr} {f : Nat → Int} (h : HU u B b8 pu m cu f) (hb : Below u.heap.size u u') : HU u' B b8 pu m cu f := ⟨row_next hb h.row, h.own.next hb⟩
theorem HU.kept {u u' : World} {B b8 m cu : Nat} {pu : Option Addr} {f : Nat → Int} (h : HU u B b8 pu m cu f) {base n : Nat} {v : Value} {ys : List Value} (hr : u.ownsRow base 41 31 v n ys) (hg : u.grownBy u' v.ownBlock) : HU u' B b8 pu m cu f := by
  obtain ⟨xs, a1, a2⟩ := h.own
  refine ⟨(hg.block b8 (heap_lt h.row) (fun e => own_ty hr h.row (by decide) b8 e.symm rfl)).trans h.row, xs, a1.kept hg ?_, a2⟩
  cases hk : (Value.slice pu m cu).ownBlock with
  | none => exact .inl rfl
  | some q => exact .inr (fun e => own_kind a1 hr (by decide) q hk e.symm)
theorem HU.at {u : World} {B b8 m cu : Nat} {pu : Option Addr} {f : Nat → Int} (h : HU u B b8 pu m cu f) : ∀ i, i < m → IntAt u pu i (f i) := let ⟨_, a1, a2⟩ := h.own; own_ix a1 a2

end Go.Proofs.YtmafopckplpajaaGreatDoor

/-
  The program's slices.DeleteFunc over nodes.
-/
namespace Go.Proofs.YtmafopckplpajaaGreatDoor
open Go.RowKit
set_option linter.unusedVariables false

/-- While nodes are taken out of a row: the kept ones of the first j stand at its begin, those from j on where they were. -/
structure DelS (u : World) (base T g n c : Nat) (X : Nat → Nd) (A : Nat → Na) (q : Nat → Bool) (j : Nat) : Prop where
  row : ∃ ys, u.ownsRow base 41 31 (.slice (some ⟨g, 0, none⟩) n c) n ys ∧ NsAt ys (pickF X (keepI q j)) (pickF A (keepI q j)) (keepI q j).length ∧ (∀ t, j ≤ t → t < n → ∀ m v, (ndC (X t) (A t))[m]? = some v → ys[t * 31 + m]? = some v)
  own : ∀ t, t < n → ∀ l, l < 5 → OwnL u base (X t) (A t) l
  apt : Apt T (.slice (some ⟨g, 0, none⟩) n c) n (fun t l => lvl (X t) (A t) l)
theorem DelS.next {u u' : World} {base T g n c j : Nat} {X : Nat → Nd} {A : Nat → Na} {q : Nat → Bool} (h : DelS u base T g n c X A q j) (hb : Below u.heap.size u u') : DelS u' base T g n c X A q j :=
  let ⟨ys, h1, h2, h3⟩ := h.row; ⟨⟨ys, own_below h1 hb, h2, h3⟩, fun t ht l hl => (h.own t ht l hl).next hb, h.apt⟩
theorem DelS.range {u : World} {base T g n c j : Nat} {X : Nat → Nd} {A : Nat → Na} {q : Nat → Bool} (h : DelS u base T g n c X A q j) (hj : j < n) : u.rangeAt g (j * 31) (ndC (X j) (A j)).toList := by
  obtain ⟨ys, h1, _, h3⟩ := h.row
  intro m v hv
  rw [Array.getElem?_toList] at hv
  have hm : m < 31 := by have := (Array.getElem?_eq_some_iff.1 hv).1; rwa [ndC_size] at this
  rw [h1.cellAt _ (by omega)]
  exact h3 j (Nat.le_refl _) hj m v hv
theorem DelS.there {u : World} {base T g n c j t : Nat} {X : Nat → Nd} {A : Nat → Na} {q : Nat → Bool} (h : DelS u base T g n c X A q j) (ht : t < n) : u.there g (t * 31) 31 := let ⟨_, h1, _⟩ := h.row; own_there h1 ht
theorem DelS.skip {u : World} {base T g n c j : Nat} {X : Nat → Nd} {A : Nat → Na} {q : Nat → Bool} (h : DelS u base T g n c X A q j) (hq : q j = true) : DelS u base T g n c X A q (j + 1) := by
  obtain ⟨ys, h1, h2, h3⟩ := h.row
  exact ⟨⟨ys, h1, by rw [keep_yes hq]; exact h2, fun t ht => h3 t (by omega)⟩, h.own, h.apt⟩
theorem DelS.keep {u : World} {base T g n c j : Nat} {X : Nat → Nd} {A : Nat → Na} {q : Nat → Bool} (h : DelS u base T g n c X A q j) (hj : j < n) (hq : q j = false) : DelS (u.setCells g ((keepI q j).length * 31) (ndC (X j) (A j)).toList) base T g n c X A q (j + 1) := by
  obtain ⟨ys, h1, h2, h3⟩ := h.row
  have hle := keep_le q j
  have hz : (ndC (X j) (A j)).toList.length = 31 := rfl
  have hg := sets_grown g (ndC (X j) (A j)).toList u ((keepI q j).length * 31)
  have hl := h1.1
  refine ⟨⟨_, own_setMany _ h1, ?_, fun t ht hn m v hv => ?_⟩, fun t ht l hl => (h.own t ht l hl).kept hg ((h.own t ht l hl).off h1), h.apt⟩
  · rw [keep_no hq]
    intro t ht m v hv
    have hm : m < 31 := by have := (Array.getElem?_eq_some_iff.1 hv).1; rwa [ndC_size] at this
    have ht' : t < (keepI q j).length + 1 := by simpa using ht
    rw [← pickF_snoc X _ j ht', ← pickF_snoc A _ j ht'] at hv
    by_cases e : t = (keepI q j).length
    · subst e
      rw [upd_at, upd_at] at hv
      rw [setL_in _ _ _ _ (by rw [hz]; omega) (by rw [hz]; exact hm), Array.getElem?_toList]
      exact hv
    · rw [upd_ne _ _ e, upd_ne _ _ e] at hv
      rw [setL_out _ _ _ _ (.inl (by omega))]
      exact h2 t (by omega) m v hv
  · have hm : m < 31 := by have := (Array.getElem?_eq_some_iff.1 hv).1; rwa [ndC_size] at this
    rw [setL_out _ _ _ _ (.inr (by rw [hz]; omega))]
    exact h3 t (by omega) hn m v hv
/-- The first m elements of a row of one's own. -/
theorem own_cut {w : World} {base e s g n m c : Nat} {xs : List Value} (h : w.ownsRow base e s (.slice (some ⟨g, 0, none⟩) n c) n xs) (hm : m ≤ n) : w.ownsRow base e s (.slice (some ⟨g, 0, none⟩) m c) m (xs.take (m * s)) := by
  have hl := h.1
  obtain ⟨_, h2 | ⟨g', cap, cur, hv, h3, h4, h5, h6, h7, h8⟩⟩ := h
  · cases h2.1
  · cases hv
    have hms : m * s ≤ n * s := Nat.mul_le_mul_right _ hm
    refine ⟨by rw [List.length_take, hl]; exact Nat.min_eq_left hms, .inr ⟨g, c, cur, rfl, h3, h4, Nat.le_trans hm h5, h6, h7, ?_⟩⟩
    rw [← h8, List.take_take, Nat.min_eq_left hms]
theorem DelS.fin {u : World} {base T g n c : Nat} {X : Nat → Nd} {A : Nat → Na} {q : Nat → Bool} (h : DelS u base T g n c X A q n) (ZZ : List Value) : SG (u.setCells g ((keepI q n).length * 31) ZZ) base T (some ⟨g, 0, none⟩) (keepI q n).length c (pickF X (keepI q n)) (pickF A (keepI q n)) := by
  obtain ⟨ys, h1, h2, _⟩ := h.row
  have hle := keep_le q n
  have hg := sets_grown g ZZ u ((keepI q n).length * 31)
  have h3 := own_cut (own_setMany ZZ (o := (keepI q n).length * 31) h1) hle
  have hix : ∀ j, j < (keepI q n).length → ∃ t, t < n ∧ pickF X (keepI q n) j = X t ∧ pickF A (keepI q n) j = A t ∧ (keepI q n)[j]? = some t := fun j hj => ⟨(keepI q n)[j], (keep_lt q n _ (List.getElem_mem hj)).1, pickF_at X _ hj, pickF_at A _ hj, List.getElem?_eq_getElem hj⟩
  refine ⟨⟨_, h3, fun j hj m v hv => ?_⟩, fun j hj l hl => ?_, fun i j hi hj l m hl hm k e1 e2 => ?_, fun j hj l hl k e => ?_, fun k e => h.apt.row k e⟩
  · have hm : m < 31 := by have := (Array.getElem?_eq_some_iff.1 hv).1; rwa [ndC_size] at this
    rw [List.getElem?_take_of_lt (by omega), setL_out _ _ _ _ (.inl (by omega))]
    exact h2 j hj m v hv
  · obtain ⟨t, ht, e1, e2, _⟩ := hix j hj
    rw [e1, e2]
    exact (h.own t ht l hl).kept hg ((h.own t ht l hl).off h1)
  · obtain ⟨t, ht, a1, a2, a3⟩ := hix i hi
    obtain ⟨t', ht', b1, b2, b3⟩ := hix j hj
    rw [a1, a2] at e1
    rw [b1, b2] at e2
    obtain ⟨ett, el⟩ := h.apt.inj t t' ht ht' l m hl hm k e1 e2
    subst ett
    refine ⟨?_, el⟩
    have nd := keep_nodup q n
    have ei := (List.getElem?_eq_some_iff.1 a3)
    have ej := (List.getElem?_eq_some_iff.1 b3)
    exact (List.getElem_inj nd).1 (ei.2.trans ej.2.symm)
  · obtain ⟨t, ht, a1, a2, _⟩ := hix j hj
    rw [a1, a2] at e
    exact h.apt.blk t ht l hl k e

end Go.Proofs.YtmafopckplpajaaGreatDoor

/-
  The program's CreateNode. (By changeb.py.)
-/
namespace Go.Proofs.YtmafopckplpajaaGreatDoor
open Go.RowKit
set_option linter.unusedVariables false

end Go.Proofs.YtmafopckplpajaaGreatDoor

/-
  Kids by their parents: the program's map of lists; a list that is taken from at its beginning and grows at its end.
-/
namespace Go.Proofs.YtmafopckplpajaaGreatDoor
open Go.RowKit
set_option linter.unusedVariables false

theorem kids_more (X : Nat → Nd) (k : Nat) (p : Int) : kidsL X (k + 1) p = if (X k).par = p then kidsL X k p ++ [(X k).id] else kidsL X k p := by
  unfold kidsL
  rw [pickIds]
  by_cases h : (X k).par = p
  · rw [if_pos (decide_eq_true h), if_pos h]
  · rw [if_neg (by rw [decide_eq_false h]; exact Bool.false_ne_true), if_neg h]
/-- The kids' lists by their parent, of the first k nodes: each its own, no two in one row. -/
structure Brood (u : World) (base m : Nat) (X : Nat → Nd) (k : Nat) (V : Int → Value) : Prop where
  map : ∃ D : DataW Value, u.ownsMap Tryz.prog 3 anyElem m k D ∧ ∀ p, (Lit.int .i64 p).wf = true → D.atKey (.int .i64 p) (.held (.slice none 0 0)) = .held (V p)
  row : ∀ p, (Lit.int .i64 p).wf = true → u.ownsRow base 3 1 (V p) (kidsL X k p).length ((kidsL X k p).map Zv)
  apart : ∀ p q, (Lit.int .i64 p).wf = true → (Lit.int .i64 q).wf = true → p ≠ q → (V p).ownBlock = none ∨ (V p).ownBlock ≠ (V q).ownBlock
  lt : m < base
theorem below_grown {w u : World} (hb : Below w.heap.size w u) : w.grownBy u none := ⟨hb.os, hb.tape, hb.output, hb.size, fun k hk _ => hb.block k hk⟩
theorem Brood.next {w u : World} {base m k : Nat} {X : Nat → Nd} {V : Int → Value} (h : Brood w base m X k V) (hb : Below w.heap.size w u) : Brood u base m X k V :=
  ⟨let ⟨D, h1, h2⟩ := h.map; ⟨D, ownsMap_next h1 hb, h2⟩, fun p hp => (h.row p hp).kept (below_grown hb) (by cases hv : (V p).ownBlock <;> simp), h.apart, h.lt⟩
theorem Brood.made (w : World) (X : Nat → Nd) : Brood (w.alloc (.map #[] 0)) (w.heap.size + 1) w.heap.size X 0 (fun _ => .slice none 0 0) :=
  ⟨⟨.map [], World.ownsMap_made w _ _ _, fun p _ => rfl⟩, fun p _ => World.ownsRow_nil _ _ _ _, fun p q _ _ _ => .inl rfl, by omega⟩
theorem ints_zero (w : World) : (zeroValue 30).run Tryz.prog w = .ok (.slice none 0 0) w := by kernel_rfl
theorem Brood.look {w : World} {base m k : Nat} {X : Nat → Nd} {V : Int → Value} (h : Brood w base m X k V) (p : Int) (hp : (Lit.int .i64 p).wf = true) : (Instr.lookup 141 (.map (some m)) (.int .i64 p) false).run Tryz.prog w = .ok (V p) w := by
  obtain ⟨D, h1, h2⟩ := h.map
  obtain ⟨v, ps, hrun, hv⟩ := h1.lookup int_law Tryz.underlying141 (ints_zero w) (zd := .held (.slice none 0 0)) (zp := []) rfl (Go.Maps.keyOf_int_mk Tryz.underlying3 hp)
  rw [h2 p hp] at hv
  rw [hrun, anyElem_inv hv]
theorem Brood.put {w w1 : World} {base m k : Nat} {X : Nat → Nd} {V : Int → Value} (h : Brood w base m X k V) (hk : k ≤ 1048576) (hp : (Lit.int .i64 (X k).par).wf = true) (v' : Value) (hg : w.grownBy w1 (V (X k).par).ownBlock)
    (ho : w1.ownsRow base 3 1 v' (kidsL X k (X k).par ++ [(X k).id]).length ((kidsL X k (X k).par ++ [(X k).id]).map Zv)) (hl : v'.ownBlock = (V (X k).par).ownBlock ∨ ∀ g, v'.ownBlock = some g → w.heap.size ≤ g) :
    ∃ w2, (Instr.mapUpdate 141 (.map (some m)) (.int .i64 (X k).par) v').run Tryz.prog w1 = .ok () w2 ∧ Brood w2 base m X (k + 1) (fun z => if z = (X k).par then v' else V z) ∧ w1.grownBy w2 (some m) := by
  obtain ⟨D, h1, h2⟩ := h.map
  have hne : some m ≠ (V (X k).par).ownBlock := fun e => by have := ((h.row _ hp).lt m e.symm).1; have := h.lt; omega
  have hne2 : v'.ownBlock = none ∨ v'.ownBlock ≠ some m := .inr (fun e => by have := (ho.lt m e).1; have := h.lt; omega)
  have hM := h1.kept hg hne
  have hT := hM.isMap
  obtain ⟨w2, hrun, hown, hg2⟩ := hM.update int_law Tryz.underlying141 (by unfold maxLen; omega) (Go.Maps.keyOf_int_mk Tryz.underlying3 hp) (show anyElem v' = some (.held v', []) from rfl)
  refine ⟨w2, hrun, ⟨⟨_, hown, fun p hpw => ?_⟩, fun p hpw => ?_, fun p q hpw hqw hpq => ?_, h.lt⟩, hg2⟩
  · by_cases e : p = (X k).par
    · rw [if_pos e, e, Go.Maps.atKey_put_same hT (by trivial)]
    · rw [if_neg e, Go.Maps.atKey_put_other (by intro e'; cases e'; exact e rfl), h2 p hpw]
  · rw [kids_more]
    by_cases e : p = (X k).par
    · rw [if_pos e, if_pos e.symm, e]
      exact ho.kept hg2 hne2
    · rw [if_neg e, if_neg (Ne.symm e)]
      have hr := h.row p hpw
      refine (hr.kept hg (h.apart p _ hpw hp e)).kept hg2 ?_
      cases hv : (V p).ownBlock with
      | none => exact .inl rfl
      | some g => exact .inr (fun e' => by cases e'; have := (hr.lt m hv).1; have := h.lt; omega)
  · have far : ∀ r, (Lit.int .i64 r).wf = true → r ≠ (X k).par → (V r).ownBlock = none ∨ (V r).ownBlock ≠ v'.ownBlock := by
      intro r hr hne3
      rcases hl with hl | hl
      · rw [hl]; exact h.apart r _ hr hp hne3
      · cases hv : (V r).ownBlock with
        | none => exact .inl rfl
        | some g => exact .inr (fun e' => by have := ((h.row r hr).lt g hv).2; have := hl g e'.symm; omega)
    by_cases e : p = (X k).par
    · rw [if_pos e]
      by_cases e2 : q = (X k).par
      · exact absurd (e.trans e2.symm) hpq
      · rw [if_neg e2]
        rcases far q hqw e2 with hq | hq
        · cases hv : v'.ownBlock with
          | none => exact .inl rfl
          | some g => exact .inr (fun e' => by rw [hq] at e'; cases e')
        · exact .inr (Ne.symm hq)
    · rw [if_neg e]
      by_cases e2 : q = (X k).par
      · rw [if_pos e2]; exact far p hpw e
      · rw [if_neg e2]; exact h.apart p q hpw hqw hpq

end Go.Proofs.YtmafopckplpajaaGreatDoor

/-
  A list of numbers that is taken from at its beginning and grows at its end.
-/
namespace Go.Proofs.YtmafopckplpajaaGreatDoor
open Go.RowKit
set_option linter.unusedVariables false

def QRow (u : World) (base : Nat) (v : Value) (xs : List Int) : Prop :=
  ∃ g off cap cur, v = .slice (some ⟨g, off, none⟩) xs.length cap ∧ base ≤ g ∧ u.heap[g]? = some (.cells cur 3 (0, 0)) ∧ xs.length ≤ cap ∧ off + cap ≤ cur.size ∧ cap ≤ maxLen ∧ ∀ j z, xs[j]? = some z → cur[off + j]? = some (.int .i64 z)
theorem QRow.start (w : World) (z : Int) : QRow (w.alloc (.cells #[.int .i64 z] 3)) w.heap.size (.slice (some ⟨w.heap.size, 0, none⟩) 1 1) [z] := by
  refine ⟨w.heap.size, 0, 1, _, rfl, Nat.le_refl _, new_row w _, Nat.le_refl _, Nat.le_refl _, by unfold maxLen; omega, fun j y h => ?_⟩
  cases j with
  | zero => simp at h; subst h; rfl
  | succ j => simp at h
theorem QRow.next {w u : World} {base : Nat} {v : Value} {xs : List Int} (h : QRow w base v xs) {row : Option Nat} (hg : w.grownBy u row) (hne : ∀ g, row = some g → g < base) : QRow u base v xs := by
  obtain ⟨g, off, cap, cur, h1, h2, h3, h4⟩ := h
  exact ⟨g, off, cap, cur, h1, h2, (hg.block g (heap_lt h3) (fun e => by have := hne g e.symm; omega)).trans h3, h4⟩
theorem QRow.form {u : World} {base : Nat} {v : Value} {z : Int} {r : List Int} (h : QRow u base v (z :: r)) : ∃ g off c, v = .slice (some ⟨g, off, none⟩) (r.length + 1) (c + 1) ∧ u.cell? ⟨g, off, none⟩ = some (.int .i64 z) ∧ base ≤ g ∧ r.length ≤ c ∧ c + 1 ≤ maxLen ∧
    (0 < c → QRow u base (.slice (some ⟨g, off + 1, none⟩) r.length c) r) ∧ (c = 0 → QRow u base (.slice (some ⟨g, off, none⟩) 0 0) r ∧ r = []) := by
  obtain ⟨g, off, cap, cur, rfl, h2, h3, h4, h5, h6, h7⟩ := h
  simp only [List.length_cons] at h4
  obtain ⟨c, rfl⟩ : ∃ c, cap = c + 1 := ⟨cap - 1, by omega⟩
  refine ⟨g, off, c, rfl, ?_, h2, by omega, h6, fun hc => ?_, fun hc => ?_⟩
  · rw [cell_of_row u g off cur 3 (0, 0) h3]
    exact h7 0 z rfl
  · refine ⟨g, off + 1, c, cur, rfl, h2, h3, by omega, by omega, by omega, fun j y hj => ?_⟩
    have := h7 (j + 1) y (by simpa using hj)
    rwa [show off + 1 + j = off + (j + 1) by omega]
  · have hr : r = [] := List.eq_nil_of_length_eq_zero (by omega)
    subst hr
    exact ⟨⟨g, off, 0, cur, rfl, h2, h3, Nat.le_refl _, by omega, by omega, fun j y hj => by simp at hj⟩, rfl⟩
theorem QRow.none {u : World} {base : Nat} {v : Value} (h : QRow u base v []) : ∃ a c, v = .slice (some a) 0 c := by
  obtain ⟨g, off, cap, cur, rfl, _⟩ := h
  exact ⟨_, _, rfl⟩
theorem QRow.any {u : World} {base : Nat} {v : Value} {xs : List Int} (h : QRow u base v xs) : ∃ a c, v = .slice (some a) xs.length c := by
  obtain ⟨g, off, cap, cur, rfl, _⟩ := h
  exact ⟨_, _, rfl⟩
end Go.Proofs.YtmafopckplpajaaGreatDoor
