/-
  ChangeP · ChangeF · ChangeQ · DropP · ScenesP · RankP · ChangeA · DropI · DropJ · ChangeB · BroodP · QueueP · FellP · BroodI · FellI · UnderI · DropK · CreatesP · PlaceP · PlaceQ · PlacesP: texts of one claim, in one.
-/
import Derived.Test.YtdbphpekhmlmdaaGreatDoorFnPlacesM4
import Derived.Test.YtdbphpekhmlmdaaGreatDoorFnPlacesM5
import Derived.Lib.SliceRun
import Derived.Test.YtdbphpekhmlmdaaGreatDoorFnPlacesM3
import Derived.Deep.AppendLies
import Derived.Deep.RegionHeld3
import Derived.Deep.DeepCutAuto
import Derived.Deep.DeepFit

/-
  Changes: what both sides reckon; guarded loads of nodes.
-/
namespace Go.Proofs.YtdbphpekhmlmdaaGreatDoor
open Go.RowKit
set_option linter.unusedVariables false

/-- A scene and a code that are handed back. -/
def ChRes (w : World) (r : Ending) (w' : World) (c : Int) (n : Nat) (X : Nat → Nd) : Prop := ∃ a cc A, r = .returned (.tuple #[.agg #[.slice a n cc], .int .i64 c]) ∧ SG w' w.heap.size w'.heap.size a n cc X A ∧ Below w.heap.size w w'
noncomputable def changeC (X : Nat → Nd) (n : Nat) (id : Int) : Int := if ¬ sceneOkB X n = true then 1 else if firstN X id n < 0 then 2 else 0
theorem errV_is {c : Int} (h : c ≠ 0) : errV c = .iface 90 (.agg #[.int .i64 c]) := if_neg h
theorem errV_nil : errV 0 = .nilIface := if_pos rfl
theorem depth_nn {X : Nat → Nd} {n : Nat} : ∀ (f : Nat) (c id : Int), 0 ≤ c → 0 ≤ depthN X n f c id
  | 0, _, _, _ => by unfold depthN; exact Int.le_refl _
  | f + 1, c, id, h => by
    unfold depthN
    split
    · exact h
    · split
      · exact Int.le_refl _
      · exact depth_nn f (c + 1) _ (by omega)
theorem depth_le {X : Nat → Nd} {n : Nat} : ∀ (f : Nat) (c id : Int), 0 ≤ c → depthN X n f c id ≤ c + f
  | 0, c, _, h => by unfold depthN; omega
  | f + 1, c, id, h => by
    unfold depthN
    split
    · omega
    · split
      · omega
      · have := depth_le (X := X) (n := n) f (c + 1) (X (firstN X id n).toNat).par (by omega); omega
structure Wf (X : Nat → Nd) (n : Nat) : Prop where
  id : ∀ i, i < n → (Lit.int .i64 (X i).id).wf = true
  par : ∀ i, i < n → (Lit.int .i64 (X i).par).wf = true
theorem own_ty {w : World} {B e s n b : Nat} {v : Value} {xs : List Value} {cs : Array Value} {t : TypeId} {fz : Nat × Nat} (h : w.ownsRow B e s v n xs) (hb : w.heap[b]? = some (.cells cs t fz)) (ht : t ≠ e) : ∀ k, v.ownBlock = some k → k ≠ b := by
  rcases h.2 with ⟨rfl, _⟩ | ⟨g, cap, cur, rfl, _, hg, _⟩
  · intro k e; cases e
  · intro k e e2
    have e1 : g = k := Option.some.inj e
    subst e1
    subst e2
    rw [hg] at hb
    cases hb
    exact ht rfl
theorem lty_sc (l : Nat) : 26 ≠ lty l := by unfold lty; split <;> decide
/-- A variable of another kind can be written without harm to a scene. -/
theorem SG.setk {u : World} {base T n c b j : Nat} {p : Option Addr} {v : Value} {cs : Array Value} {fz : Nat × Nat} {X : Nat → Nd} {A : Nat → Na} (h : SG u base T p n c X A) (hb : u.heap[b]? = some (.cells cs 26 fz)) : SG (u.setCell ⟨b, j, none⟩ v) base T p n c X A :=
  let ⟨ys, h1, h2⟩ := h.row; ⟨⟨ys, own_setc_ne h1 (own_ty h1 hb (by decide)), h2⟩, fun j hj l hl => let ⟨xs, a1, a2⟩ := h.own j hj l hl; ⟨xs, own_setc_ne a1 (own_ty a1 hb (lty_sc l)), a2⟩, h.apt⟩
end Go.Proofs.YtdbphpekhmlmdaaGreatDoor

/-
  Changed scenes are not too great for the laws' words.
-/
namespace Go.Proofs.YtdbphpekhmlmdaaGreatDoor
open Go.RowKit
set_option linter.unusedVariables false

end Go.Proofs.YtdbphpekhmlmdaaGreatDoor

/-
  Nodes of a scene of one's own that are written anew.
-/
namespace Go.Proofs.YtdbphpekhmlmdaaGreatDoor
open Go.RowKit
set_option linter.unusedVariables false

def Nd.withPar (x : Nd) (q : Int) : Nd := { x with par := q }
theorem lvl_par (x : Nd) (q : Int) (s : Na) (l : Nat) : lvl (x.withPar q) s l = lvl x s l := by
  rcases l with _ | _ | _ | _ | l <;> rfl
theorem lnl_par (x : Nd) (q : Int) (l : Nat) : lnl (x.withPar q) l = lnl x l := by
  rcases l with _ | _ | _ | _ | l <;> rfl
theorem lct_par (x : Nd) (q : Int) (l : Nat) (xs : List Value) : lct (x.withPar q) l xs = lct x l xs := by
  rcases l with _ | _ | _ | _ | l <;> rfl
theorem OwnL.withPar {w : World} {base : Nat} {x : Nd} {s : Na} {l : Nat} (h : OwnL w base x s l) (q : Int) : OwnL w base (x.withPar q) s l := by
  obtain ⟨xs, h1, h2⟩ := h
  refine ⟨xs, ?_, ?_⟩
  · rw [lvl_par, lnl_par]; exact h1
  · rw [lct_par]; exact h2
theorem NdG.withPar {w : World} {base : Nat} {x : Nd} {s : Na} (h : NdG w base x s) (q : Int) : NdG w base (x.withPar q) s :=
  ⟨fun l hl => (h.own l hl).withPar q, fun l m hl hm k e1 e2 => h.inj l m hl hm k (by rw [lvl_par] at e1; exact e1) (by rw [lvl_par] at e2; exact e2)⟩
theorem ndC_par (x : Nd) (s : Na) (q : Int) : (ndC x s).setIfInBounds 1 (.int .i64 q) = ndC (x.withPar q) s := by unfold ndC Nd.withPar; simp only [List.setIfInBounds_toArray, List.set_cons_zero, List.set_cons_succ]
/-- Node k of a scene is another one. -/
theorem SG.put {u : World} {base T g n c k B : Nat} {X : Nat → Nd} {A : Nat → Na} {x : Nd} {s : Na} (h : SG u base T (some ⟨g, 0, none⟩) n c X A) (hk : k < n) (hB : base ≤ B) (hT : T ≤ B) (hx : NdG u B x s) :
    SG (u.setCells g (k * 31) (ndC x s).toList) base (u.setCells g (k * 31) (ndC x s).toList).heap.size (some ⟨g, 0, none⟩) n c (upd X k x) (upd A k s) := by
  obtain ⟨ys, h1, h2⟩ := h.row
  have hg := sets_grown g (ndC x s).toList u (k * 31)
  have own : ∀ j, j < n → ∀ l, l < 5 → OwnL (u.setCells g (k * 31) (ndC x s).toList) base (upd X k x j) (upd A k s j) l := fun j hj l hl => by
    by_cases e : j = k
    · subst e; rw [upd_at, upd_at]; exact ((hx.own l hl).low hB).kept hg ((hx.own l hl).off h1)
    · rw [upd_ne _ _ e, upd_ne _ _ e]; exact (h.own j hj l hl).kept hg ((h.own j hj l hl).off h1)
  have row := own_setMany (ndC x s).toList (o := k * 31) h1
  refine ⟨⟨_, row, h2.put hk h1.1 x s⟩, own, fun i j hi hj l m hl hm q e1 e2 => ?_, fun j hj l hl q e => ⟨((own j hj l hl).lt q e).2, (own j hj l hl).row row q e⟩, fun q e => (row.lt q e).2⟩
  by_cases ei : i = k <;> by_cases ej : j = k
  · subst ei; subst ej
    simp only [upd_at] at e1 e2
    exact ⟨rfl, hx.inj l m hl hm q e1 e2⟩
  · subst ei
    simp only [upd_at, upd_ne _ _ ej] at e1 e2
    have := ((hx.own l hl).lt q e1).1
    have := (h.apt.blk j hj m hm q e2).1
    omega
  · subst ej
    simp only [upd_at, upd_ne _ _ ei] at e1 e2
    have := ((hx.own m hm).lt q e2).1
    have := (h.apt.blk i hi l hl q e1).1
    omega
  · simp only [upd_ne _ _ ei, upd_ne _ _ ej] at e1 e2
    exact h.apt.inj i j hi hj l m hl hm q e1 e2
/-- Node k of a scene has another Parent. -/
theorem SG.putPar {u : World} {base T g n c k : Nat} {X : Nat → Nd} {A : Nat → Na} (h : SG u base T (some ⟨g, 0, none⟩) n c X A) (hk : k < n) (q : Int) : SG (u.setCell ⟨g, k * 31 + 1, none⟩ (.int .i64 q)) base T (some ⟨g, 0, none⟩) n c (upd X k ((X k).withPar q)) A := by
  obtain ⟨ys, h1, h2⟩ := h.row
  have hg := setc_grown u g (k * 31 + 1) (.int .i64 q)
  have hl0 := h1.1
  refine ⟨⟨_, (h1.stored (k * 31 + 1) _).1, fun j hj m v hv => ?_⟩, fun j hj l hl => ?_, fun i j hi hj l m hl hm r e1 e2 => ?_, fun j hj l hl r e => ?_, h.apt.row⟩
  · have hm : m < 31 := by have := (Array.getElem?_eq_some_iff.1 hv).1; rwa [ndC_size] at this
    by_cases e : j = k
    · subst e
      rw [upd_at, ← ndC_par] at hv
      by_cases em : m = 1
      · subst em
        rw [List.getElem?_set_self (by omega)]
        rw [Array.getElem?_setIfInBounds_self_of_lt (by rw [ndC_size]; omega)] at hv
        exact hv
      · rw [List.getElem?_set_ne (by omega)]
        rw [Array.getElem?_setIfInBounds_ne (by omega)] at hv
        exact h2 j hj m v hv
    · rw [upd_ne _ _ e] at hv
      rw [List.getElem?_set_ne (by omega)]
      exact h2 j hj m v hv
  · have o := (h.own j hj l hl).kept hg ((h.own j hj l hl).off h1)
    by_cases e : j = k
    · subst e; rw [upd_at]; exact o.withPar q
    · rw [upd_ne _ _ e]; exact o
  · have f : ∀ t l, lvl (upd X k ((X k).withPar q) t) (A t) l = lvl (X t) (A t) l := fun t l => by
      by_cases e : t = k
      · subst e; rw [upd_at, lvl_par]
      · rw [upd_ne _ _ e]
    simp only [f] at e1 e2
    exact h.apt.inj i j hi hj l m hl hm r e1 e2
  · have f : ∀ t l, lvl (upd X k ((X k).withPar q) t) (A t) l = lvl (X t) (A t) l := fun t l => by
      by_cases e : t = k
      · subst e; rw [upd_at, lvl_par]
      · rw [upd_ne _ _ e]
    simp only [f] at e
    exact h.apt.blk j hj l hl r e
theorem par_fit (x : Nd) (q : Int) (h : x.Small) : (x.withPar q).Small := ⟨h.nv, h.np, h.nd, h.mv, h.mp⟩
end Go.Proofs.YtdbphpekhmlmdaaGreatDoor

/-
  Nodes that are dropped: what both sides reckon.
-/
namespace Go.Proofs.YtdbphpekhmlmdaaGreatDoor
open Go.RowKit
set_option linter.unusedVariables false

/-- The places that are kept of the first k. -/
def keepI (q : Nat → Bool) : Nat → List Nat
  | 0 => []
  | k + 1 => if q k = true then keepI q k else keepI q k ++ [k]
theorem keep_le (q : Nat → Bool) : ∀ k, (keepI q k).length ≤ k
  | 0 => Nat.le_refl _
  | k + 1 => by
    have := keep_le q k
    unfold keepI
    split
    · omega
    · simp; omega
theorem keep_lt (q : Nat → Bool) : ∀ k i, i ∈ keepI q k → i < k ∧ q i = false
  | 0, i, h => by cases h
  | k + 1, i, h => by
    unfold keepI at h
    split at h
    · have := keep_lt q k i h; exact ⟨by omega, this.2⟩
    · next hq =>
      rcases List.mem_append.1 h with h | h
      · have := keep_lt q k i h; exact ⟨by omega, this.2⟩
      · obtain rfl := List.mem_singleton.1 h
        exact ⟨by omega, by simpa using hq⟩
theorem keep_nodup (q : Nat → Bool) : ∀ k, (keepI q k).Nodup
  | 0 => List.nodup_nil
  | k + 1 => by
    unfold keepI
    split
    · exact keep_nodup q k
    · refine List.nodup_append.2 ⟨keep_nodup q k, by simp, fun a ha b hb => ?_⟩
      have e := List.mem_singleton.1 hb
      have := (keep_lt q k a ha).1
      omega
theorem keep_yes {q : Nat → Bool} {k : Nat} (h : q k = true) : keepI q (k + 1) = keepI q k := if_pos h
theorem keep_no {q : Nat → Bool} {k : Nat} (h : q k = false) : keepI q (k + 1) = keepI q k ++ [k] := if_neg (by rw [h]; decide)
/-- The things at these places. -/
def pickF {α : Type} (f : Nat → α) (L : List Nat) : Nat → α := fun j => f (L.getD j 0)
theorem pickF_at {α : Type} (f : Nat → α) (L : List Nat) {j : Nat} (h : j < L.length) : pickF f L j = f L[j] := by
  unfold pickF; simp [List.getD, List.getElem?_eq_getElem h]
theorem pickF_snoc {α : Type} (f : Nat → α) (L : List Nat) (k : Nat) {j : Nat} (h : j < L.length + 1) : upd (pickF f L) L.length (f k) j = pickF f (L ++ [k]) j := by
  by_cases e : j = L.length
  · subst e
    rw [upd_at, pickF_at f (L ++ [k]) (by simp)]
    simp
  · rw [upd_ne _ _ e, pickF_at f L (by omega), pickF_at f (L ++ [k]) (by simp; omega), List.getElem_append_left (by omega)]
theorem SG.congr {w : World} {base T n c : Nat} {a : Option Addr} {X X' : Nat → Nd} {A A' : Nat → Na} (h : SG w base T a n c X A) (hX : ∀ j, j < n → X j = X' j) (hA : ∀ j, j < n → A j = A' j) : SG w base T a n c X' A' := by
  obtain ⟨ys, h1, h2⟩ := h.row
  refine ⟨⟨ys, h1, fun j hj m v hv => h2 j hj m v (by rw [hX j hj, hA j hj]; exact hv)⟩, fun j hj l hl => by rw [← hX j hj, ← hA j hj]; exact h.own j hj l hl, fun i j hi hj l m hl hm k e1 e2 => ?_, fun j hj l hl k e => ?_, h.apt.row⟩
  · rw [← hX i hi, ← hA i hi] at e1
    rw [← hX j hj, ← hA j hj] at e2
    exact h.apt.inj i j hi hj l m hl hm k e1 e2
  · rw [← hX j hj, ← hA j hj] at e
    exact h.apt.blk j hj l hl k e
end Go.Proofs.YtdbphpekhmlmdaaGreatDoor

/-
  Scenes that grow by a node, or whose first node goes to the end: they stay right.
-/
namespace Go.Proofs.YtdbphpekhmlmdaaGreatDoor
set_option linter.unusedVariables false

/-- Two scenes that agree at all Ids of S, which has the parents of its nodes: depths are the same. -/
theorem depth_congr {X Y : Nat → Nd} {n m : Nat} {S : Int → Prop}
    (h : ∀ id, S id → id ≠ 0 → (firstN X id n < 0 ↔ firstN Y id m < 0) ∧ (¬ firstN X id n < 0 → (X (firstN X id n).toNat).par = (Y (firstN Y id m).toNat).par ∧ S (X (firstN X id n).toNat).par)) :
    ∀ (f : Nat) (c id : Int), S id → depthN X n f c id = depthN Y m f c id
  | 0, _, _, _ => rfl
  | f + 1, c, id, hs => by
    rw [depthN_succ, depthN_succ]
    by_cases h0 : id = 0
    · rw [if_pos h0, if_pos h0]
    · rw [if_neg h0, if_neg h0]
      obtain ⟨h1, h2⟩ := h id hs h0
      by_cases h3 : firstN X id n < 0
      · rw [if_pos h3, if_pos (h1.1 h3)]
      · rw [if_neg h3, if_neg (fun e => h3 (h1.2 e)), ← (h2 h3).1]
        exact depth_congr h f (c + 1) _ (h2 h3).2
theorem first_lt {X : Nat → Nd} {id : Int} {n : Nat} (h : ¬ firstN X id n < 0) : ∃ k, k < n ∧ firstN X id n = (k : Int) ∧ (X k).id = id := by
  rcases first_is (X := X) (id := id) n with ⟨e, _⟩ | ⟨k, hk, e, e1, _⟩
  · omega
  · exact ⟨k, hk, e, e1⟩
/-- Where the Ids differ, the first is the only one. -/
theorem first_only {X : Nat → Nd} {n k : Nat} (hu : ∀ i j, i < n → j < n → (X i).id = (X j).id → i = j) (hk : k < n) : firstN X (X k).id n = (k : Int) := by
  refine first_at (fun j hj e => ?_) rfl hk
  have := hu j k (by omega) hk e
  omega
theorem first_mem {X : Nat → Nd} {n : Nat} {id : Int} : ¬ firstN X id n < 0 ↔ ∃ k, k < n ∧ (X k).id = id := by
  constructor
  · intro h; obtain ⟨k, h1, _, h3⟩ := first_lt h; exact ⟨k, h1, h3⟩
  · rintro ⟨k, hk, e⟩ hlt
    rcases first_is (X := X) (id := id) n with ⟨_, h⟩ | ⟨j, _, e1, _, _⟩
    · exact h k hk e
    · omega
theorem ScOk.uniq {X : Nat → Nd} {n : Nat} (h : ScOk X n) : ∀ i j, i < n → j < n → (X i).id = (X j).id → i = j := fun i j hi hj e => by
  have a := (okAt_iff.1 (h.2 i hi)).2.1
  have b := (okAt_iff.1 (h.2 j hj)).2.1
  rw [e, b] at a
  omega
theorem par_in {X : Nat → Nd} {n i : Nat} (h : ScOk X n) (hi : i < n) : (X i).par = 0 ∨ ∃ k, k < n ∧ (X k).id = (X i).par ∧ (X k).gr = true := by
  obtain ⟨_, _, _, h4⟩ := okAt_iff.1 (h.2 i hi)
  rcases h4 with h4 | ⟨h4, h5⟩
  · exact .inl h4
  · obtain ⟨k, hk, e, e1⟩ := first_lt (X := X) (n := n) (id := (X i).par) (by omega)
    rw [e] at h5
    exact .inr ⟨k, hk, e1, h5⟩
/-- A depth d is found within d + 1 - c steps. -/
theorem depth_fuel {X : Nat → Nd} {n : Nat} : ∀ {f : Nat} {c id : Int}, 0 ≤ c → 0 < depthN X n f c id → ∀ g : Nat, depthN X n f c id - c < (g : Int) → depthN X n g c id = depthN X n f c id
  | 0, c, id, _, h, _, _ => absurd h (by show ¬ (0 : Int) < 0; omega)
  | f + 1, c, id, hc, h, g, hg => by
    rw [depthN_succ] at h hg ⊢
    by_cases h0 : id = 0
    · rw [if_pos h0] at h hg ⊢
      obtain ⟨q, rfl⟩ : ∃ q, g = q + 1 := ⟨g - 1, by omega⟩
      rw [depthN_succ, if_pos h0]
    · rw [if_neg h0] at h hg ⊢
      by_cases h1 : firstN X id n < 0
      · rw [if_pos h1] at h; omega
      · rw [if_neg h1] at h hg ⊢
        have hle := (depth_more (X := X) (n := n) (f := f) (c := c + 1) (id := (X (firstN X id n).toNat).par) (by omega) (by omega)).1
        obtain ⟨q, rfl⟩ : ∃ q, g = q + 1 := ⟨g - 1, by omega⟩
        rw [depthN_succ, if_neg h0, if_neg h1]
        exact depth_fuel (by omega) h q (by omega)
theorem depth_short {X : Nat → Nd} {n k : Nat} (hS : ScOk X n) (hn : n ≤ 8) (hk : k < n) : depthN X n 8 (0 + 1) (X k).id = depthI X n (X k).id + 1 := by
  obtain ⟨g1, g2, ⟨g3, g4⟩, _⟩ := okAt_iff.1 (hS.2 k hk)
  unfold depthI at g3 g4 ⊢
  have e := depth_fuel (X := X) (n := n) (f := 9) (c := 0) (id := (X k).id) (by omega) (by omega) 8 (by omega)
  have hid := (node_ids g1).1
  have e1 : depthN X n 8 0 (X k).id = depthN X n 7 (0 + 1) (X k).par := by
    rw [depthN_succ, if_neg (by omega), g2, if_neg (by omega)]
    rfl
  have h7 : depthN X n 7 (0 + 1) (X k).par ≠ 0 := by rw [← e1, e]; omega
  have e2 : depthN X n 8 (0 + 1) (X k).id = depthN X n 7 (0 + 1 + 1) (X k).par := by
    rw [depthN_succ, if_neg (by omega), g2, if_neg (by omega)]
    rfl
  rw [e2, (depth_more (by omega) h7).2 7 (0 + 1 + 1) (Nat.le_refl _), ← e1, e]
  omega
/-- One node more at the end. -/
theorem scOk_snoc {X Y : Nat → Nd} {n : Nat} (hS : ScOk X n) (hn : n < 8) (hY : ∀ i, i < n → Y i = X i) (hx : nodeOkB (Y n) = true) (hid : ∀ i, i < n → (X i).id ≠ (Y n).id)
    (hp : (Y n).par = 0 ∨ ∃ k, k < n ∧ (X k).id = (Y n).par ∧ (X k).gr = true ∧ depthI X n (X k).id < 4) : ScOk Y (n + 1) := by
  have hu : ∀ i j, i < n + 1 → j < n + 1 → (Y i).id = (Y j).id → i = j := by
    intro i j hi hj e
    by_cases hi2 : i = n
    · by_cases hj2 : j = n
      · omega
      · rw [hi2, hY j (by omega)] at e; exact absurd e.symm (hid j (by omega))
    · by_cases hj2 : j = n
      · rw [hj2, hY i (by omega)] at e; exact absurd e (hid i (by omega))
      · rw [hY i (by omega), hY j (by omega)] at e; exact hS.uniq i j (by omega) (by omega) e
  have hold : ∀ (f : Nat) (c id : Int), (id = 0 ∨ ∃ k, k < n ∧ (X k).id = id) → depthN X n f c id = depthN Y (n + 1) f c id := by
    refine depth_congr (S := fun id => id = 0 ∨ ∃ k, k < n ∧ (X k).id = id) ?_
    intro id hs h0
    rcases hs with hs | ⟨k, hk, rfl⟩
    · exact absurd hs h0
    · have e1 := first_only hS.uniq hk
      have e2 : firstN Y (X k).id (n + 1) = (k : Int) := by rw [← hY k hk]; exact first_only hu (by omega)
      rw [e1, e2]
      refine ⟨Iff.rfl, fun _ => ?_⟩
      show (X k).par = (Y k).par ∧ _
      rw [hY k hk]
      refine ⟨rfl, ?_⟩
      rcases par_in hS hk with h | ⟨q, hq, e, _⟩
      · exact .inl h
      · exact .inr ⟨q, hq, e⟩
  have hid9 := (node_ids hx).1
  refine ⟨by omega, fun i hi => okAt_iff.2 ?_⟩
  by_cases hin : i = n
  · subst hin
    refine ⟨hx, first_only hu (by omega), ?_, ?_⟩
    · have e : depthI Y (i + 1) (Y i).id = depthN Y (i + 1) 8 (0 + 1) (Y i).par := by
        unfold depthI
        rw [depthN_succ, if_neg (by omega), first_only hu (by omega), if_neg (by omega)]
        rfl
      rw [e]
      rcases hp with hp | ⟨k, hk, e1, _, e3⟩
      · rw [hp]
        exact ⟨by show 1 ≤ (0 : Int) + 1; omega, by show (0 : Int) + 1 ≤ 4; omega⟩
      · have h9 := (okAt_iff.1 (hS.2 k hk)).2.2.1
        have e4 : depthN Y (i + 1) 9 0 (Y i).par = depthI X i (X k).id := by
          rw [← e1]
          exact (hold 9 0 (X k).id (.inr ⟨k, hk, rfl⟩)).symm
        -- the parent stands within eight steps, too: its depth is less than four
        have e5 : depthN X i 8 (0 + 1) (X k).id = depthI X i (X k).id + 1 := by
          exact depth_short hS (by omega) hk
        have e6 : depthN Y (i + 1) 8 (0 + 1) (Y i).par = depthN X i 8 (0 + 1) (X k).id := by
          rw [← e1]
          exact (hold 8 (0 + 1) (X k).id (.inr ⟨k, hk, rfl⟩)).symm
        rw [e6, e5]
        omega
    · rcases hp with hp | ⟨k, hk, e1, e2, _⟩
      · exact .inl hp
      · right
        have e4 : firstN Y (Y i).par (i + 1) = (k : Int) := by rw [← e1, ← hY k hk]; exact first_only hu (by omega)
        rw [e4]
        exact ⟨by omega, by show (Y k).gr = true; rw [hY k hk]; exact e2⟩
  · have hi2 : i < n := by omega
    obtain ⟨g1, g2, g3, g4⟩ := okAt_iff.1 (hS.2 i hi2)
    rw [hY i hi2]
    refine ⟨g1, by rw [← hY i hi2]; exact first_only hu hi, ?_, ?_⟩
    · have : depthI Y (n + 1) (X i).id = depthI X n (X i).id := (hold 9 0 (X i).id (.inr ⟨i, hi2, rfl⟩)).symm
      rw [this]; exact g3
    · rcases par_in hS hi2 with h | ⟨q, hq, e, eg⟩
      · exact .inl h
      · right
        have e4 : firstN Y (X i).par (n + 1) = (q : Int) := by rw [← e, ← hY q hq]; exact first_only hu (by omega)
        rw [e4]
        exact ⟨by omega, by show (Y q).gr = true; rw [hY q hq]; exact eg⟩
/-- The same nodes in another order. -/
theorem scOk_perm {X Y : Nat → Nd} {n : Nat} (hS : ScOk X n) (σ τ : Nat → Nat) (hσ : ∀ i, i < n → σ i < n ∧ τ (σ i) = i ∧ Y i = X (σ i)) (hτ : ∀ j, j < n → τ j < n ∧ σ (τ j) = j) : ScOk Y n := by
  have hY : ∀ j, j < n → Y (τ j) = X j := fun j hj => by rw [(hσ _ (hτ j hj).1).2.2, (hτ j hj).2]
  have hu : ∀ i j, i < n → j < n → (Y i).id = (Y j).id → i = j := by
    intro i j hi hj e
    rw [(hσ i hi).2.2, (hσ j hj).2.2] at e
    have := hS.uniq _ _ (hσ i hi).1 (hσ j hj).1 e
    rw [← (hσ i hi).2.1, ← (hσ j hj).2.1, this]
  have hf : ∀ k, k < n → firstN Y (X k).id n = (τ k : Int) := fun k hk => by rw [← hY k hk]; exact first_only hu (hτ k hk).1
  have hold : ∀ (f : Nat) (c id : Int), (id = 0 ∨ ∃ k, k < n ∧ (X k).id = id) → depthN X n f c id = depthN Y n f c id := by
    refine depth_congr (S := fun id => id = 0 ∨ ∃ k, k < n ∧ (X k).id = id) ?_
    intro id hs h0
    rcases hs with hs | ⟨k, hk, rfl⟩
    · exact absurd hs h0
    · rw [first_only hS.uniq hk, hf k hk]
      refine ⟨by omega, fun _ => ?_⟩
      show (X k).par = (Y (τ k)).par ∧ _
      rw [hY k hk]
      refine ⟨rfl, ?_⟩
      rcases par_in hS hk with h | ⟨q, hq, e, _⟩
      · exact .inl h
      · exact .inr ⟨q, hq, e⟩
  refine ⟨hS.1, fun i hi => okAt_iff.2 ?_⟩
  obtain ⟨h1, _, h3⟩ := hσ i hi
  obtain ⟨g1, g2, g3, g4⟩ := okAt_iff.1 (hS.2 (σ i) h1)
  refine ⟨by rw [h3]; exact g1, first_only hu hi, ?_, ?_⟩
  · have : depthI Y n (X (σ i)).id = depthI X n (X (σ i)).id := (hold 9 0 _ (.inr ⟨σ i, h1, rfl⟩)).symm
    rw [h3, this]; exact g3
  · rw [h3]
    rcases par_in hS h1 with h | ⟨q, hq, e, eg⟩
    · exact .inl h
    · right
      rw [← e, hf q hq]
      exact ⟨by omega, by show (Y (τ q)).gr = true; rw [hY q hq]; exact eg⟩
theorem scOk_nil (X : Nat → Nd) : ScOk X 0 := ⟨by omega, fun i hi => absurd hi (by omega)⟩
end Go.Proofs.YtdbphpekhmlmdaaGreatDoor

/-
  Right scenes by a rank of their nodes; set and dropped scenes stay right.
-/
namespace Go.Proofs.YtdbphpekhmlmdaaGreatDoor
open Go.RowKit
set_option linter.unusedVariables false

/-- Each node's rank is one more than its parent's. -/
structure Ranked (X : Nat → Nd) (n : Nat) (d : Int → Int) : Prop where
  few : n ≤ 8
  ok : ∀ i, i < n → nodeOkB (X i) = true
  uniq : ∀ i j, i < n → j < n → (X i).id = (X j).id → i = j
  step : ∀ i, i < n → ((X i).par = 0 ∧ d (X i).id = 1) ∨ (∃ k, k < n ∧ (X k).id = (X i).par ∧ (X k).gr = true ∧ d (X i).id = d (X i).par + 1)
theorem Ranked.depth {X : Nat → Nd} {n : Nat} {d : Int → Int} (h : Ranked X n d) (hd : ∀ i, i < n → 1 ≤ d (X i).id) : ∀ (f : Nat) (i : Nat) (c : Int), i < n → d (X i).id < (f : Int) → depthN X n f c (X i).id = c + d (X i).id := by
  intro f
  induction f with
  | zero => intro i c hi h2; have := hd i hi; omega
  | succ f ih =>
    intro i c hi h2
    have hid := (node_ids (h.ok i hi)).1
    rw [depthN_succ, if_neg (by omega), first_only h.uniq hi, if_neg (by omega), Int.toNat_natCast]
    rcases h.step i hi with ⟨e, e1⟩ | ⟨k, hk, e, _, e1⟩
    · rw [e, e1]
      cases f with
      | zero => omega
      | succ f => rw [depthN_succ, if_pos rfl]
    · rw [← e] at e1
      rw [← e, ih k (c + 1) hk (by omega), e1]
      omega
theorem Ranked.right {X : Nat → Nd} {n : Nat} {d : Int → Int} (h : Ranked X n d) (hd : ∀ i, i < n → 1 ≤ d (X i).id ∧ d (X i).id ≤ 4) : ScOk X n := by
  refine ⟨h.few, fun i hi => okAt_iff.2 ⟨h.ok i hi, first_only h.uniq hi, ?_, ?_⟩⟩
  · have := hd i hi
    have e := h.depth (fun i hi => (hd i hi).1) 9 i 0 hi (by omega)
    unfold depthI
    rw [e]
    omega
  · rcases h.step i hi with ⟨e, _⟩ | ⟨k, hk, e, hg, _⟩
    · exact .inl e
    · refine .inr ?_
      rw [← e, first_only h.uniq hk, Int.toNat_natCast]
      exact ⟨by omega, hg⟩
theorem ScOk.ranked {X : Nat → Nd} {n : Nat} (hS : ScOk X n) : Ranked X n (depthI X n) := by
  refine ⟨hS.1, fun i hi => (okAt_iff.1 (hS.2 i hi)).1, hS.uniq, fun i hi => ?_⟩
  have e := depth_step hS hi
  rcases par_in hS hi with h | ⟨k, hk, h1, h2⟩
  · exact .inl ⟨h, by rw [e, h, depth_zero]; rfl⟩
  · exact .inr ⟨k, hk, h1, h2, e⟩
theorem ScOk.deep {X : Nat → Nd} {n : Nat} (hS : ScOk X n) : ∀ i, i < n → 1 ≤ depthI X n (X i).id ∧ depthI X n (X i).id ≤ 4 := fun i hi => (okAt_iff.1 (hS.2 i hi)).2.2.1
theorem keep_mem {q : Nat → Bool} : ∀ {n t : Nat}, t < n → q t = false → t ∈ keepI q n
  | 0, _, h, _ => absurd h (by omega)
  | n + 1, t, h, hq => by
    by_cases e : t = n
    · subst e; rw [keep_no hq]; simp
    · have := keep_mem (n := n) (t := t) (by omega) hq
      unfold keepI
      split
      · exact this
      · exact List.mem_append_left _ this
end Go.Proofs.YtdbphpekhmlmdaaGreatDoor

/-
  The program's mayChange, mayCreate, maySet.
-/
namespace Go.Proofs.YtdbphpekhmlmdaaGreatDoor
open Go.RowKit
set_option linter.unusedVariables false

set_option maxHeartbeats 4000000 in
theorem implMayChange_any (X : Nat → Nd) (A : Nat → Na) (ao : Option Addr) (n cp : Nat) (hn : n ≤ 1048576) (hs : ∀ i, i < n → (X i).Small) (hw : Wf X n) (id : Int) (w : World) (P : ∀ i, i < n → NrAt w ao i (X i) (A i)) :
    Calls Tryz.prog 53 #[.agg #[.slice ao n cp], .int .i64 id] w fun r w' => r = .returned (errV (changeC X n id)) ∧ Below w.heap.size w w' := by
  have E1 := hide (fun u => implSceneOk_any X A ao n cp hn hs hw.id hw.par u)
  have E2 := hide (fun u => implNodeAt_any X A ao n cp hn id u)
  replace P := hide P
  clear hs hw
  obtain ⟨C, hC⟩ : ∃ C, Hid (C = errV (changeC X n id)) := ⟨_, rfl⟩
  rw [← unhide hC]
  have hC' := hide (show C = errV (if ¬ sceneOkB X n = true then 1 else if firstN X id n < 0 then 2 else 0) from unhide hC)
  clear hC
  go_enter Tryz.func53, Tryz.ntmps53
  go_upto_region 1 with fail
  have R := hide (new_row w (.cells #[.slice ao n cp] 26))
  have HB := hide (al1_below w (.cells #[.slice ao n cp] 26))
  obtain ⟨b1, hb1⟩ : ∃ z, Hid (z = w.heap.size) := ⟨_, rfl⟩
  rw [← unhide hb1] at R ⊢
  clear hb1
  generalize w.alloc (.cells #[.slice ao n cp] 26) = W at R HB ⊢
  have c0 := row1 (unhide R)
  go_wp2_with fail
  go_fit (unhide E1 _ (fun i hi => (unhide P i hi).next (unhide HB)))
  rintro r u1 ⟨rfl, hb⟩
  replace R := hide (row_next hb (unhide R))
  replace HB := hide (below_two (unhide HB) hb)
  clear hb c0 E1
  cases hok : sceneOkB X n with
  | false =>
    rw [hok, if_pos (by simp)] at hC'
    rw [errV_is (by decide)] at hC'
    clear hok
    go_wp2_with fail
    go_ret
    exact ⟨by rw [unhide hC']; rfl, unhide HB⟩
  | true =>
    rw [hok, if_neg (by simp)] at hC'
    clear hok
    have c0 := row1 (unhide R)
    go_wp2_with fail
    go_fit (unhide E2 _ (fun i hi => (unhide P i hi).next (unhide HB)))
    rintro r u2 ⟨rfl, hb⟩
    replace HB := hide (below_two (unhide HB) hb)
    clear hb c0 E2
    by_cases hf : firstN X id n < 0
    · rw [if_pos hf, errV_is (by decide)] at hC'
      generalize firstN X id n = Z at hf ⊢
      go_wp2_with fail
      go_ret
      exact ⟨by rw [unhide hC']; rfl, unhide HB⟩
    · rw [if_neg hf, errV_nil] at hC'
      generalize firstN X id n = Z at hf ⊢
      go_wp2_with fail
      go_ret
      exact ⟨by rw [unhide hC']; rfl, unhide HB⟩

end Go.Proofs.YtdbphpekhmlmdaaGreatDoor

/-
  The program's words for dropping: slices.Index, Contains, IndexFunc, DeleteFunc, clear.
-/
namespace Go.Proofs.YtdbphpekhmlmdaaGreatDoor
open Go.RowKit
set_option linter.unusedVariables false

/-- The first place where q is so. -/
def firstQ (q : Nat → Bool) : Nat → Int
  | 0 => -1
  | n + 1 => if 0 ≤ firstQ q n then firstQ q n else if q n = true then (n : Int) else -1
theorem fq_none {q : Nat → Bool} : ∀ {n : Nat}, (∀ j, j < n → q j = false) → firstQ q n = -1
  | 0, _ => rfl
  | n + 1, h => by
    have e := fq_none (n := n) (fun j hj => h j (by omega))
    unfold firstQ
    rw [e, if_neg (by omega), if_neg (by rw [h n (by omega)]; decide)]
theorem fq_at {q : Nat → Bool} {k : Nat} (h : ∀ j, j < k → q j = false) (hk : q k = true) : ∀ {n : Nat}, k < n → firstQ q n = k
  | 0, hn => absurd hn (by omega)
  | n + 1, hn => by
    unfold firstQ
    by_cases e : k = n
    · subst e
      rw [fq_none h, if_neg (by omega), if_pos hk]
    · rw [fq_at h hk (n := n) (by omega), if_pos (by omega)]
theorem fq_is {q : Nat → Bool} : ∀ n : Nat, (firstQ q n = -1 ∧ ∀ j, j < n → q j = false) ∨ ∃ k : Nat, k < n ∧ firstQ q n = k ∧ q k = true ∧ ∀ j, j < k → q j = false
  | 0 => .inl ⟨rfl, fun j hj => absurd hj (by omega)⟩
  | n + 1 => by
    rcases fq_is (q := q) n with ⟨e, h⟩ | ⟨k, hk, e, h1, h2⟩
    · cases hx : q n with
      | true => exact .inr ⟨n, by omega, fq_at h hx (by omega), hx, h⟩
      | false =>
        have h' : ∀ j, j < n + 1 → q j = false := fun j hj => by
          by_cases e : j = n
          · subst e; exact hx
          · exact h j (by omega)
        exact .inl ⟨fq_none h', h'⟩
    · exact .inr ⟨k, by omega, fq_at h2 h1 (by omega), h1, h2⟩
def eqQ (f : Nat → Int) (z : Int) (k : Nat) : Bool := decide (f k = z)
/-- Is a number among these? -/
def hasB (f : Nat → Int) (n : Nat) (z : Int) : Bool := decide (0 ≤ firstQ (eqQ f z) n)
theorem has_iff {f : Nat → Int} {n : Nat} {z : Int} : hasB f n z = true ↔ ∃ i, i < n ∧ f i = z := by
  unfold hasB
  rw [decide_eq_true_iff]
  rcases fq_is (q := eqQ f z) n with ⟨e, h⟩ | ⟨k, hk, e, h1, _⟩
  · rw [e]
    constructor
    · intro h; omega
    · rintro ⟨i, hi, e⟩
      have := h i hi
      unfold eqQ at this
      rw [e] at this
      simp at this
  · rw [e]
    constructor
    · intro _; exact ⟨k, hk, by unfold eqQ at h1; simpa using h1⟩
    · intro _; omega

set_option maxHeartbeats 4000000 in
theorem implIndexI_any (f : Nat → Int) (ao : Option Addr) (n c : Nat) (hn : n ≤ 1048576) (z : Int) (w : World) (P : ∀ i, i < n → IntAt w ao i (f i)) :
    Calls Tryz.prog 90 #[.slice ao n c, .int .i64 z] w fun r w' => r = .returned (.int .i64 (firstQ (eqQ f z) n)) ∧ w' = w := by
  have hno : Hid ((∀ j, j < n → eqQ f z j = false) → firstQ (eqQ f z) n = -1) := fq_none
  have hyes : Hid (∀ k, (∀ j, j < k → eqQ f z j = false) → eqQ f z k = true → k < n → firstQ (eqQ f z) n = (k : Int)) := fun k h1 h2 h3 => fq_at h1 h2 h3
  have hq1 : Hid (∀ k, z = f k → eqQ f z k = true) := fun k e => by unfold eqQ; simp [e]
  have hq0 : Hid (∀ k, ¬ z = f k → eqQ f z k = false) := fun k e => by unfold eqQ; simp; exact fun h => e h.symm
  generalize firstQ (eqQ f z) n = Z at hno hyes ⊢
  replace P := hide P
  go_enter Tryz.func90, Tryz.ntmps90
  go_upto_region 2 with fail
  go_loopw [8] (fun i u => ∃ k : Nat, k ≤ n ∧ i = .int .i64 (k : Int) ∧ u = w ∧ Hid (∀ j, j < k → eqQ f z j = false)) (fun i _ => n - (intOf i).toNat)
  case atStart => exact ⟨0, Nat.zero_le _, rfl, rfl, fun j hj => absurd hj (by omega)⟩
  case round =>
    obtain ⟨k, hk, rfl, rfl, HK⟩ := hrel
    by_cases hkn : k < n
    · have hki : (k : Int) < (n : Int) := by omega
      obtain ⟨b, o, hao, g0⟩ := unhide P k hkn
      subst hao
      by_cases hx : z = f k
      · have hq : (z == f k) = true := beq_iff_eq.2 hx
        have hX := hide (unhide hyes k (unhide HK) (unhide hq1 k hx) hkn)
        clear hx
        go_wp2_with fail
        go_ret
        exact ⟨by rw [unhide hX]; rfl, by trivial⟩
      · have hq : (z == f k) = false := beq_eq_false_iff_ne.2 hx
        have HK2 : Hid (∀ j, j < k + 1 → eqQ f z j = false) := fun j hj => by
          by_cases e : j = k
          · subst e; exact unhide hq0 j hx
          · exact unhide HK j (by omega)
        go_wp2_with fail
        go_roundw
        case rel => exact ⟨k + 1, by omega, by go_num, by trivial, HK2⟩
        case measure => simp [intOf]; omega
    · have hke : k = n := by omega
      subst hke
      have hki : ¬ (k : Int) < (k : Int) := by omega
      have hX := hide (unhide hno (unhide HK))
      go_wp2_with fail
      go_ret
      exact ⟨by rw [unhide hX]; rfl, by trivial⟩

theorem implContainsI_any (f : Nat → Int) (ao : Option Addr) (n c : Nat) (hn : n ≤ 1048576) (z : Int) (w : World) (P : ∀ i, i < n → IntAt w ao i (f i)) :
    Calls Tryz.prog 56 #[.slice ao n c, .int .i64 z] w fun r w' => r = .returned (.bool (hasB f n z)) ∧ w' = w := by
  have E := hide (implIndexI_any f ao n c hn z w P)
  unfold hasB
  clear P
  go_enter Tryz.func56, Tryz.ntmps56
  go_wp2_with fail
  go_fit (unhide E)
  rintro r u ⟨rfl, hu⟩
  rw [hu]
  go_wp2_with fail
  go_ret
  exact ⟨rfl, rfl⟩
/-- The list of what is under a node, in its variable. -/
structure HU (u : World) (B b8 : Nat) (pu : Option Addr) (m cu : Nat) (f : Nat → Int) : Prop where
  row : u.heap[b8]? = some (.cells #[.slice pu m cu] 36 (0, 0))
  own : OwnI u B (.slice pu m cu) m f
theorem HU.next {u u' : World} {B b8 m cu : Nat} {pu : Option Addr} {f : Nat → Int} (h : HU u B b8 pu m cu f) (hb : Below u.heap.size u u') : HU u' B b8 pu m cu f := ⟨row_next hb h.row, h.own.next hb⟩
theorem HU.kept {u u' : World} {B b8 m cu : Nat} {pu : Option Addr} {f : Nat → Int} (h : HU u B b8 pu m cu f) {base n : Nat} {v : Value} {ys : List Value} (hr : u.ownsRow base 47 31 v n ys) (hg : u.grownBy u' v.ownBlock) : HU u' B b8 pu m cu f := by
  obtain ⟨xs, a1, a2⟩ := h.own
  refine ⟨(hg.block b8 (heap_lt h.row) (fun e => own_ty hr h.row (by decide) b8 e.symm rfl)).trans h.row, xs, a1.kept hg ?_, a2⟩
  cases hk : (Value.slice pu m cu).ownBlock with
  | none => exact .inl rfl
  | some q => exact .inr (fun e => own_kind a1 hr (by decide) q hk e.symm)
theorem HU.at {u : World} {B b8 m cu : Nat} {pu : Option Addr} {f : Nat → Int} (h : HU u B b8 pu m cu f) : ∀ i, i < m → IntAt u pu i (f i) := let ⟨_, a1, a2⟩ := h.own; own_ix a1 a2

/-- The zeros that clear writes. -/
def zerosN (n : Nat) : List Value := (Builtin.zeroCells ndZ n).toList
theorem zeros_len (n : Nat) : (zerosN n).length = n * 31 := by unfold zerosN Builtin.zeroCells; simp [ndZ]
theorem zeros_one (n : Nat) : ∀ v ∈ zerosN n, v.oneCell' = true := by
  have hz : ∀ v ∈ ndZ, v.oneCell' = true := by
    have : ndZ.all (·.oneCell') = true := by unfold ndZ; simp [Value.oneCell']
    exact Array.all_eq_true'.1 this
  intro v hv
  unfold zerosN Builtin.zeroCells at hv
  simp at hv
  obtain ⟨i, hi, rfl⟩ := hv
  have hlt : i % ndZ.size < ndZ.size := Nat.mod_lt _ (show 0 < 31 by decide)
  rw [getElem!_pos ndZ (i % ndZ.size) hlt]
  exact hz _ (Array.getElem_mem hlt)
theorem run_clear_nodes (w : World) (ty : TypeId) (b o n c : Nat) (hn : 0 < n) (ht : w.there b o (n * 31)) :
    (Builtin.clear_ #[24] ty #[.slice (some ⟨b, o, none⟩) n c]).run Tryz.prog w = .ok (.tuple #[]) (w.setCells b o (zerosN n)) := by
  have hst := run_storeCells_cells (P := Tryz.prog) b o (zerosN n) 0 w (by rw [zeros_len]; exact fun j hj => (ht j hj).1) (by rw [zeros_len]; exact fun j hj => (ht j hj).2) (zeros_one n)
  simp only [Nat.add_zero] at hst
  obtain ⟨m, rfl⟩ : ∃ m, n = m + 1 := ⟨n - 1, by omega⟩
  have hzc : (Builtin.zeroCells (Value.agg #[.int .i64 0, .int .i64 0, .bool false, .int .i64 0, .int .i64 0, .int .i64 0, .int .i64 0, .int .i64 0, .int .i64 0, .slice none 0 0, .slice none 0 0, .bool false, .int .i64 0, .slice none 0 0, .int .i64 0, .int .i64 0, .int .i64 0, .int .i64 0, .int .i64 0, .int .i64 0, .int .i64 0, .int .i64 0, .int .i64 0, .int .i64 0, .int .i64 0, .int .i64 0, .int .i64 0, .int .i64 0, .int .i64 0, .slice none 0 0, .slice none 0 0]).cells (m + 1)).toList = zerosN (m + 1) := rfl
  simp [Builtin.clear_, run_underlying Tryz.underlying24]
  rw [hzc, hst]
  rfl
theorem wpList_clear_nodes {ops : Array Oper} {rest : List Oper} {oo : Oper} {a : Act} {Q : Exit → Act → World → Prop} {w : World} (hgd : oo.guard = none) (x : Operand) (ho : oo.op = .call { callee := .builtin .clear, args := #[x], argTypes := #[24] })
    (b o n c : Nat) (hx : a.eval x = .slice (some ⟨b, o, none⟩) n c) (hn : 0 < n) (ht : w.there b o (n * 31))
    (h : wpList Tryz.prog ops Q rest (a.put oo.dst (.tuple #[])) (w.setCells b o (zerosN n))) : wpList Tryz.prog ops Q (oo :: rest) a w := by
  refine wpList_plain hgd fun K hK => ?_
  have hrun := run_clear_nodes w oo.type b o n c hn ht
  unfold Oper.wp
  simp [execOp, ho, resolve, invoke, builtin, hx, hrun, Result.andThen]
  exact hK _ _ h
end Go.Proofs.YtdbphpekhmlmdaaGreatDoor

/-
  The program's slices.DeleteFunc over nodes.
-/
namespace Go.Proofs.YtdbphpekhmlmdaaGreatDoor
open Go.RowKit
set_option linter.unusedVariables false

theorem keep_all {q : Nat → Bool} : ∀ {k : Nat}, (∀ j, j < k → q j = false) → keepI q k = List.range k
  | 0, _ => rfl
  | k + 1, h => by rw [keep_no (h k (by omega)), keep_all (fun j hj => h j (by omega)), List.range_succ]
/-- While nodes are taken out of a row: the kept ones of the first j stand at its begin, those from j on where they were. -/
structure DelS (u : World) (base T g n c : Nat) (X : Nat → Nd) (A : Nat → Na) (q : Nat → Bool) (j : Nat) : Prop where
  row : ∃ ys, u.ownsRow base 47 31 (.slice (some ⟨g, 0, none⟩) n c) n ys ∧ NsAt ys (pickF X (keepI q j)) (pickF A (keepI q j)) (keepI q j).length ∧ (∀ t, j ≤ t → t < n → ∀ m v, (ndC (X t) (A t))[m]? = some v → ys[t * 31 + m]? = some v)
  own : ∀ t, t < n → ∀ l, l < 5 → OwnL u base (X t) (A t) l
  apt : Apt T (.slice (some ⟨g, 0, none⟩) n c) n (fun t l => lvl (X t) (A t) l)
theorem DelS.next {u u' : World} {base T g n c j : Nat} {X : Nat → Nd} {A : Nat → Na} {q : Nat → Bool} (h : DelS u base T g n c X A q j) (hb : Below u.heap.size u u') : DelS u' base T g n c X A q j :=
  let ⟨ys, h1, h2, h3⟩ := h.row; ⟨⟨ys, own_below h1 hb, h2, h3⟩, fun t ht l hl => (h.own t ht l hl).next hb, h.apt⟩
theorem SG.del {u : World} {base T g n c k : Nat} {X : Nat → Nd} {A : Nat → Na} {q : Nat → Bool} (h : SG u base T (some ⟨g, 0, none⟩) n c X A) (hk : k < n) (hq : q k = true) (h0 : ∀ j, j < k → q j = false) : DelS u base T g n c X A q (k + 1) ∧ (keepI q (k + 1)).length = k := by
  obtain ⟨ys, h1, h2⟩ := h.row
  have e : keepI q (k + 1) = List.range k := by rw [keep_yes hq, keep_all h0]
  refine ⟨⟨⟨ys, h1, ?_, fun t _ ht m v hv => h2 t ht m v hv⟩, h.own, h.apt⟩, by rw [e]; simp⟩
  rw [e]
  intro j hj m v hv
  rw [List.length_range] at hj
  rw [pickF_at X _ (by simpa using hj), pickF_at A _ (by simpa using hj)] at hv
  simp only [List.getElem_range] at hv
  exact h2 j (by omega) m v hv
theorem DelS.range {u : World} {base T g n c j : Nat} {X : Nat → Nd} {A : Nat → Na} {q : Nat → Bool} (h : DelS u base T g n c X A q j) (hj : j < n) : u.rangeAt g (j * 31) (ndC (X j) (A j)).toList := by
  obtain ⟨ys, h1, _, h3⟩ := h.row
  intro m v hv
  rw [Array.getElem?_toList] at hv
  have hm : m < 31 := by have := (Array.getElem?_eq_some_iff.1 hv).1; rwa [ndC_size] at this
  rw [h1.cellAt _ (by omega)]
  exact h3 j (Nat.le_refl _) hj m v hv
theorem DelS.there {u : World} {base T g n c j t : Nat} {X : Nat → Nd} {A : Nat → Na} {q : Nat → Bool} (h : DelS u base T g n c X A q j) (ht : t < n) : u.there g (t * 31) 31 := let ⟨_, h1, _⟩ := h.row; own_there h1 ht
theorem DelS.skip {u : World} {base T g n c j : Nat} {X : Nat → Nd} {A : Nat → Na} {q : Nat → Bool} (h : DelS u base T g n c X A q j) (hq : q j = true) : DelS u base T g n c X A q (j + 1) := by
  obtain ⟨ys, h1, h2, h3⟩ := h.row
  exact ⟨⟨ys, h1, by rw [keep_yes hq]; exact h2, fun t ht => h3 t (by omega)⟩, h.own, h.apt⟩
theorem DelS.keep {u : World} {base T g n c j : Nat} {X : Nat → Nd} {A : Nat → Na} {q : Nat → Bool} (h : DelS u base T g n c X A q j) (hj : j < n) (hq : q j = false) : DelS (u.setCells g ((keepI q j).length * 31) (ndC (X j) (A j)).toList) base T g n c X A q (j + 1) := by
  obtain ⟨ys, h1, h2, h3⟩ := h.row
  have hle := keep_le q j
  have hz : (ndC (X j) (A j)).toList.length = 31 := rfl
  have hg := sets_grown g (ndC (X j) (A j)).toList u ((keepI q j).length * 31)
  have hl := h1.1
  refine ⟨⟨_, own_setMany _ h1, ?_, fun t ht hn m v hv => ?_⟩, fun t ht l hl => (h.own t ht l hl).kept hg ((h.own t ht l hl).off h1), h.apt⟩
  · rw [keep_no hq]
    intro t ht m v hv
    have hm : m < 31 := by have := (Array.getElem?_eq_some_iff.1 hv).1; rwa [ndC_size] at this
    have ht' : t < (keepI q j).length + 1 := by simpa using ht
    rw [← pickF_snoc X _ j ht', ← pickF_snoc A _ j ht'] at hv
    by_cases e : t = (keepI q j).length
    · subst e
      rw [upd_at, upd_at] at hv
      rw [setL_in _ _ _ _ (by rw [hz]; omega) (by rw [hz]; exact hm), Array.getElem?_toList]
      exact hv
    · rw [upd_ne _ _ e, upd_ne _ _ e] at hv
      rw [setL_out _ _ _ _ (.inl (by omega))]
      exact h2 t (by omega) m v hv
  · have hm : m < 31 := by have := (Array.getElem?_eq_some_iff.1 hv).1; rwa [ndC_size] at this
    rw [setL_out _ _ _ _ (.inr (by rw [hz]; omega))]
    exact h3 t (by omega) hn m v hv
/-- The first m elements of a row of one's own. -/
theorem own_cut {w : World} {base e s g n m c : Nat} {xs : List Value} (h : w.ownsRow base e s (.slice (some ⟨g, 0, none⟩) n c) n xs) (hm : m ≤ n) : w.ownsRow base e s (.slice (some ⟨g, 0, none⟩) m c) m (xs.take (m * s)) := by
  have hl := h.1
  obtain ⟨_, h2 | ⟨g', cap, cur, hv, h3, h4, h5, h6, h7, h8⟩⟩ := h
  · cases h2.1
  · cases hv
    have hms : m * s ≤ n * s := Nat.mul_le_mul_right _ hm
    refine ⟨by rw [List.length_take, hl]; exact Nat.min_eq_left hms, .inr ⟨g, c, cur, rfl, h3, h4, Nat.le_trans hm h5, h6, h7, ?_⟩⟩
    rw [← h8, List.take_take, Nat.min_eq_left hms]
theorem DelS.fin {u : World} {base T g n c : Nat} {X : Nat → Nd} {A : Nat → Na} {q : Nat → Bool} (h : DelS u base T g n c X A q n) (ZZ : List Value) : SG (u.setCells g ((keepI q n).length * 31) ZZ) base T (some ⟨g, 0, none⟩) (keepI q n).length c (pickF X (keepI q n)) (pickF A (keepI q n)) := by
  obtain ⟨ys, h1, h2, _⟩ := h.row
  have hle := keep_le q n
  have hg := sets_grown g ZZ u ((keepI q n).length * 31)
  have h3 := own_cut (own_setMany ZZ (o := (keepI q n).length * 31) h1) hle
  have hix : ∀ j, j < (keepI q n).length → ∃ t, t < n ∧ pickF X (keepI q n) j = X t ∧ pickF A (keepI q n) j = A t ∧ (keepI q n)[j]? = some t := fun j hj => ⟨(keepI q n)[j], (keep_lt q n _ (List.getElem_mem hj)).1, pickF_at X _ hj, pickF_at A _ hj, List.getElem?_eq_getElem hj⟩
  refine ⟨⟨_, h3, fun j hj m v hv => ?_⟩, fun j hj l hl => ?_, fun i j hi hj l m hl hm k e1 e2 => ?_, fun j hj l hl k e => ?_, fun k e => h.apt.row k e⟩
  · have hm : m < 31 := by have := (Array.getElem?_eq_some_iff.1 hv).1; rwa [ndC_size] at this
    rw [List.getElem?_take_of_lt (by omega), setL_out _ _ _ _ (.inl (by omega))]
    exact h2 j hj m v hv
  · obtain ⟨t, ht, e1, e2, _⟩ := hix j hj
    rw [e1, e2]
    exact (h.own t ht l hl).kept hg ((h.own t ht l hl).off h1)
  · obtain ⟨t, ht, a1, a2, a3⟩ := hix i hi
    obtain ⟨t', ht', b1, b2, b3⟩ := hix j hj
    rw [a1, a2] at e1
    rw [b1, b2] at e2
    obtain ⟨ett, el⟩ := h.apt.inj t t' ht ht' l m hl hm k e1 e2
    subst ett
    refine ⟨?_, el⟩
    have nd := keep_nodup q n
    have ei := (List.getElem?_eq_some_iff.1 a3)
    have ej := (List.getElem?_eq_some_iff.1 b3)
    exact (List.getElem_inj nd).1 (ei.2.trans ej.2.symm)
  · obtain ⟨t, ht, a1, a2, _⟩ := hix j hj
    rw [a1, a2] at e
    exact h.apt.blk t ht l hl k e

end Go.Proofs.YtdbphpekhmlmdaaGreatDoor

/-
  The program's CreateNode. (By changeb.py.)
-/
namespace Go.Proofs.YtdbphpekhmlmdaaGreatDoor
open Go.RowKit
set_option linter.unusedVariables false

end Go.Proofs.YtdbphpekhmlmdaaGreatDoor

/-
  Kids by their parents: the program's map of lists; a list that is taken from at its beginning and grows at its end.
-/
namespace Go.Proofs.YtdbphpekhmlmdaaGreatDoor
open Go.RowKit
set_option linter.unusedVariables false

theorem kids_more (X : Nat → Nd) (k : Nat) (p : Int) : kidsL X (k + 1) p = if (X k).par = p then kidsL X k p ++ [(X k).id] else kidsL X k p := by
  unfold kidsL
  rw [pickIds]
  by_cases h : (X k).par = p
  · rw [if_pos (decide_eq_true h), if_pos h]
  · rw [if_neg (by rw [decide_eq_false h]; exact Bool.false_ne_true), if_neg h]
theorem kids_le (X : Nat → Nd) (k : Nat) (p : Int) : (kidsL X k p).length ≤ k := pick_le X _ k
theorem kids_mem {X : Nat → Nd} {p z : Int} : ∀ {n : Nat}, z ∈ kidsL X n p ↔ ∃ j, j < n ∧ (X j).par = p ∧ (X j).id = z
  | 0 => by simp [kidsL, pickIds]
  | n + 1 => by
    rw [kids_more]
    have ih := kids_mem (X := X) (p := p) (z := z) (n := n)
    constructor
    · intro h
      split at h
      · rename_i hp
        rcases List.mem_append.1 h with h | h
        · obtain ⟨j, h1, h2⟩ := ih.1 h; exact ⟨j, by omega, h2⟩
        · exact ⟨n, by omega, hp, (List.mem_singleton.1 h).symm⟩
      · obtain ⟨j, h1, h2⟩ := ih.1 h; exact ⟨j, by omega, h2⟩
    · rintro ⟨j, h1, h2, h3⟩
      by_cases e : j = n
      · subst e
        rw [if_pos h2]
        exact List.mem_append.2 (.inr (List.mem_singleton.2 h3.symm))
      · have hm := ih.2 ⟨j, by omega, h2, h3⟩
        split
        · exact List.mem_append.2 (.inl hm)
        · exact hm

/-- The kids' lists by their parent, of the first k nodes: each its own, no two in one row. -/
structure Brood (u : World) (base m : Nat) (X : Nat → Nd) (k : Nat) (V : Int → Value) : Prop where
  map : ∃ D : DataW Value, u.ownsMap Tryz.prog 3 anyElem m k D ∧ ∀ p, (Lit.int .i64 p).wf = true → D.atKey (.int .i64 p) (.held (.slice none 0 0)) = .held (V p)
  row : ∀ p, (Lit.int .i64 p).wf = true → u.ownsRow base 3 1 (V p) (kidsL X k p).length ((kidsL X k p).map Zv)
  apart : ∀ p q, (Lit.int .i64 p).wf = true → (Lit.int .i64 q).wf = true → p ≠ q → (V p).ownBlock = none ∨ (V p).ownBlock ≠ (V q).ownBlock
  lt : m < base
theorem below_grown {w u : World} (hb : Below w.heap.size w u) : w.grownBy u none := ⟨hb.os, hb.tape, hb.output, hb.size, fun k hk _ => hb.block k hk⟩
theorem Brood.next {w u : World} {base m k : Nat} {X : Nat → Nd} {V : Int → Value} (h : Brood w base m X k V) (hb : Below w.heap.size w u) : Brood u base m X k V :=
  ⟨let ⟨D, h1, h2⟩ := h.map; ⟨D, ownsMap_next h1 hb, h2⟩, fun p hp => (h.row p hp).kept (below_grown hb) (by cases hv : (V p).ownBlock <;> simp), h.apart, h.lt⟩
theorem Brood.made (w : World) (X : Nat → Nd) : Brood (w.alloc (.map #[] 0)) (w.heap.size + 1) w.heap.size X 0 (fun _ => .slice none 0 0) :=
  ⟨⟨.map [], World.ownsMap_made w _ _ _, fun p _ => rfl⟩, fun p _ => World.ownsRow_nil _ _ _ _, fun p q _ _ _ => .inl rfl, by omega⟩
theorem ints_zero (w : World) : (zeroValue 36).run Tryz.prog w = .ok (.slice none 0 0) w := by kernel_rfl
theorem Brood.look {w : World} {base m k : Nat} {X : Nat → Nd} {V : Int → Value} (h : Brood w base m X k V) (p : Int) (hp : (Lit.int .i64 p).wf = true) : (Instr.lookup 126 (.map (some m)) (.int .i64 p) false).run Tryz.prog w = .ok (V p) w := by
  obtain ⟨D, h1, h2⟩ := h.map
  obtain ⟨v, ps, hrun, hv⟩ := h1.lookup int_law Tryz.underlying126 (ints_zero w) (zd := .held (.slice none 0 0)) (zp := []) rfl (Go.Maps.keyOf_int_mk Tryz.underlying3 hp)
  rw [h2 p hp] at hv
  rw [hrun, anyElem_inv hv]
theorem Brood.put {w w1 : World} {base m k : Nat} {X : Nat → Nd} {V : Int → Value} (h : Brood w base m X k V) (hk : k ≤ 1048576) (hp : (Lit.int .i64 (X k).par).wf = true) (v' : Value) (hg : w.grownBy w1 (V (X k).par).ownBlock)
    (ho : w1.ownsRow base 3 1 v' (kidsL X k (X k).par ++ [(X k).id]).length ((kidsL X k (X k).par ++ [(X k).id]).map Zv)) (hl : v'.ownBlock = (V (X k).par).ownBlock ∨ ∀ g, v'.ownBlock = some g → w.heap.size ≤ g) :
    ∃ w2, (Instr.mapUpdate 126 (.map (some m)) (.int .i64 (X k).par) v').run Tryz.prog w1 = .ok () w2 ∧ Brood w2 base m X (k + 1) (fun z => if z = (X k).par then v' else V z) ∧ w1.grownBy w2 (some m) := by
  obtain ⟨D, h1, h2⟩ := h.map
  have hne : some m ≠ (V (X k).par).ownBlock := fun e => by have := ((h.row _ hp).lt m e.symm).1; have := h.lt; omega
  have hne2 : v'.ownBlock = none ∨ v'.ownBlock ≠ some m := .inr (fun e => by have := (ho.lt m e).1; have := h.lt; omega)
  have hM := h1.kept hg hne
  have hT := hM.isMap
  obtain ⟨w2, hrun, hown, hg2⟩ := hM.update int_law Tryz.underlying126 (by unfold maxLen; omega) (Go.Maps.keyOf_int_mk Tryz.underlying3 hp) (show anyElem v' = some (.held v', []) from rfl)
  refine ⟨w2, hrun, ⟨⟨_, hown, fun p hpw => ?_⟩, fun p hpw => ?_, fun p q hpw hqw hpq => ?_, h.lt⟩, hg2⟩
  · by_cases e : p = (X k).par
    · rw [if_pos e, e, Go.Maps.atKey_put_same hT (by trivial)]
    · rw [if_neg e, Go.Maps.atKey_put_other (by intro e'; cases e'; exact e rfl), h2 p hpw]
  · rw [kids_more]
    by_cases e : p = (X k).par
    · rw [if_pos e, if_pos e.symm, e]
      exact ho.kept hg2 hne2
    · rw [if_neg e, if_neg (Ne.symm e)]
      have hr := h.row p hpw
      refine (hr.kept hg (h.apart p _ hpw hp e)).kept hg2 ?_
      cases hv : (V p).ownBlock with
      | none => exact .inl rfl
      | some g => exact .inr (fun e' => by cases e'; have := (hr.lt m hv).1; have := h.lt; omega)
  · have far : ∀ r, (Lit.int .i64 r).wf = true → r ≠ (X k).par → (V r).ownBlock = none ∨ (V r).ownBlock ≠ v'.ownBlock := by
      intro r hr hne3
      rcases hl with hl | hl
      · rw [hl]; exact h.apart r _ hr hp hne3
      · cases hv : (V r).ownBlock with
        | none => exact .inl rfl
        | some g => exact .inr (fun e' => by have := ((h.row r hr).lt g hv).2; have := hl g e'.symm; omega)
    by_cases e : p = (X k).par
    · rw [if_pos e]
      by_cases e2 : q = (X k).par
      · exact absurd (e.trans e2.symm) hpq
      · rw [if_neg e2]
        rcases far q hqw e2 with hq | hq
        · cases hv : v'.ownBlock with
          | none => exact .inl rfl
          | some g => exact .inr (fun e' => by rw [hq] at e'; cases e')
        · exact .inr (Ne.symm hq)
    · rw [if_neg e]
      by_cases e2 : q = (X k).par
      · rw [if_pos e2]; exact far p hpw e
      · rw [if_neg e2]; exact h.apart p q hpw hqw hpq

theorem drew_grown (w : World) (row : Option Nat) : w.grownBy w.drew row := ⟨rfl, rfl, rfl, Nat.le_refl _, fun _ _ _ => rfl⟩
/-- 'append' of one number in a region that draws its order. -/
theorem step_append_id {ops : Array Oper} {o : Oper} {a : Act} {wr : World} {K : Act → World → Prop} {Q : Exit → Act → World → Prop} {E : Prop} (hg : o.guard = none) (s x : Operand)
    (hop : o.op = .call { callee := .builtin .append, args := #[s, x], argTypes := #[36, 36] })
    (base : Nat) (i : TypeInfo) (hi : Tryz.prog.info? 3 = some i) (hz : i.zero = some (.int .i64 0)) (hsize : i.size = 1) (hby : i.bytes = 8)
    (v : Value) (L : List Int) (hs : a.eval s = v) (hown : wr.ownsRow base 3 1 v L.length (L.map Zv)) (z : Int) (c : Nat) (hx : a.eval x = .slice (some ⟨wr.heap.size, 0, none⟩) 1 c)
    (hlen : L.length ≤ 1048576) (hbase : base ≤ wr.heap.size)
    (hK : ∀ v' w', w'.ownsRow base 3 1 v' (L ++ [z]).length ((L ++ [z]).map Zv) → wr.grownBy w' v.ownBlock → (v'.ownBlock = v.ownBlock ∨ ∀ g, v'.ownBlock = some g → wr.heap.size ≤ g) → K (a.put o.dst v') w') :
    if Region.wanted o (yielded ops a.tmps) = true then Oper.wp Tryz.prog o a (wr.alloc (.cells #[.int .i64 z] 3)).drew K Q else E := by
  refine step_append_lies ((wr.alloc (.cells #[.int .i64 z] 3)).drew) hg s x 36 hop base 3 i (.int .i64 0) 1 8 Tryz.underlying36 hi hz hsize hby rfl (by decide) v L.length (L.map Zv) hs (hown.alloc _) ⟨wr.heap.size, 0, none⟩ 1 c [.int .i64 z] hx (by simp)
    (cell_one_new wr (.int .i64 z) 3) (fun q hq => by simp at hq; subst hq; rfl) (by decide) (by unfold maxLen; omega) (by omega) (by show base ≤ (wr.alloc _).heap.size; rw [al1_size]; omega) (wr.heap.size + 1) (by show (wr.alloc _).heap.size = _; rw [al1_size]) ?_
  intro g cap w' ho' hg' hat _
  refine hK _ w' (ids_snoc (z := z) (by have e : (L.map Zv ++ #[Value.int .i64 z].toList).length = L.length + 1 := by simp
                                        rw [e]; exact ho')) (((World.grownBy_alloc wr _ _).trans (drew_grown _ _)).trans hg') ?_
  rcases hat with h | h
  · exact .inl h.symm
  · refine .inr (fun k hk => ?_)
    simp only [Value.ownBlock, Option.some.injEq] at hk
    omega
end Go.Proofs.YtdbphpekhmlmdaaGreatDoor

/-
  A list of numbers that is taken from at its beginning and grows at its end.
-/
namespace Go.Proofs.YtdbphpekhmlmdaaGreatDoor
open Go.RowKit
set_option linter.unusedVariables false

def QRow (u : World) (base : Nat) (v : Value) (xs : List Int) : Prop :=
  ∃ g off cap cur, v = .slice (some ⟨g, off, none⟩) xs.length cap ∧ base ≤ g ∧ u.heap[g]? = some (.cells cur 3 (0, 0)) ∧ xs.length ≤ cap ∧ off + cap ≤ cur.size ∧ cap ≤ maxLen ∧ ∀ j z, xs[j]? = some z → cur[off + j]? = some (.int .i64 z)
theorem QRow.start (w : World) (z : Int) : QRow (w.alloc (.cells #[.int .i64 z] 3)) w.heap.size (.slice (some ⟨w.heap.size, 0, none⟩) 1 1) [z] := by
  refine ⟨w.heap.size, 0, 1, _, rfl, Nat.le_refl _, new_row w _, Nat.le_refl _, Nat.le_refl _, by unfold maxLen; omega, fun j y h => ?_⟩
  cases j with
  | zero => simp at h; subst h; rfl
  | succ j => simp at h
theorem QRow.next {w u : World} {base : Nat} {v : Value} {xs : List Int} (h : QRow w base v xs) {row : Option Nat} (hg : w.grownBy u row) (hne : ∀ g, row = some g → g < base) : QRow u base v xs := by
  obtain ⟨g, off, cap, cur, h1, h2, h3, h4⟩ := h
  exact ⟨g, off, cap, cur, h1, h2, (hg.block g (heap_lt h3) (fun e => by have := hne g e.symm; omega)).trans h3, h4⟩
theorem QRow.form {u : World} {base : Nat} {v : Value} {z : Int} {r : List Int} (h : QRow u base v (z :: r)) : ∃ g off c, v = .slice (some ⟨g, off, none⟩) (r.length + 1) (c + 1) ∧ u.cell? ⟨g, off, none⟩ = some (.int .i64 z) ∧ base ≤ g ∧ r.length ≤ c ∧ c + 1 ≤ maxLen ∧
    (0 < c → QRow u base (.slice (some ⟨g, off + 1, none⟩) r.length c) r) ∧ (c = 0 → QRow u base (.slice (some ⟨g, off, none⟩) 0 0) r ∧ r = []) := by
  obtain ⟨g, off, cap, cur, rfl, h2, h3, h4, h5, h6, h7⟩ := h
  simp only [List.length_cons] at h4
  obtain ⟨c, rfl⟩ : ∃ c, cap = c + 1 := ⟨cap - 1, by omega⟩
  refine ⟨g, off, c, rfl, ?_, h2, by omega, h6, fun hc => ?_, fun hc => ?_⟩
  · rw [cell_of_row u g off cur 3 (0, 0) h3]
    exact h7 0 z rfl
  · refine ⟨g, off + 1, c, cur, rfl, h2, h3, by omega, by omega, by omega, fun j y hj => ?_⟩
    have := h7 (j + 1) y (by simpa using hj)
    rwa [show off + 1 + j = off + (j + 1) by omega]
  · have hr : r = [] := List.eq_nil_of_length_eq_zero (by omega)
    subst hr
    exact ⟨⟨g, off, 0, cur, rfl, h2, h3, Nat.le_refl _, by omega, by omega, fun j y hj => by simp at hj⟩, rfl⟩
theorem QRow.none {u : World} {base : Nat} {v : Value} (h : QRow u base v []) : ∃ a c, v = .slice (some a) 0 c := by
  obtain ⟨g, off, cap, cur, rfl, _⟩ := h
  exact ⟨_, _, rfl⟩
theorem QRow.any {u : World} {base : Nat} {v : Value} {xs : List Int} (h : QRow u base v xs) : ∃ a c, v = .slice (some a) xs.length c := by
  obtain ⟨g, off, cap, cur, rfl, _⟩ := h
  exact ⟨_, _, rfl⟩
/-- Numbers that can be read there. -/
def IntsAt (u : World) (y : Value) (ys : List Int) : Prop := (y = .slice none 0 0 ∧ ys = []) ∨ ∃ a c, y = .slice (some a) ys.length c ∧ ∀ j z, ys[j]? = some z → u.cell? (a.add j) = some (.int .i64 z)
theorem own_ints {u : World} {base : Nat} {v : Value} {L : List Int} (h : u.ownsRow base 3 1 v L.length (L.map Zv)) : IntsAt u v L := by
  have hc := fun g (e : v.ownBlock = some g) => h.cells e
  rcases h.2 with ⟨h1, h2⟩ | ⟨g, cap, cur, h1, _⟩
  · exact .inl ⟨h1, List.eq_nil_of_length_eq_zero h2⟩
  · subst h1
    refine .inr ⟨_, _, rfl, fun j z hj => hc g rfl j _ ?_⟩
    rw [List.getElem?_map, hj]
    rfl
theorem len_map_int (ys : List Int) : (ys.map Zv).length = ys.length * 1 := by simp
theorem map_int_one (ys : List Int) : ∀ u ∈ ys.map Zv, u.oneCell' = true := by
  intro u hu
  obtain ⟨z, _, rfl⟩ := List.mem_map.1 hu
  rfl
theorem run_append_queue {u : World} {base : Nat} {v y : Value} {xs ys : List Int} (i : TypeInfo) (hi : Tryz.prog.info? 3 = some i) (hz : i.zero = some (.int .i64 0)) (hsize : i.size = 1) (hby : i.bytes = 8)
    (hq : QRow u base v xs) (hy : IntsAt u y ys) (hlen : xs.length + ys.length ≤ 1099511627776) (hbase : base ≤ u.heap.size) (ty : TypeId) :
    ∃ v' u', (Builtin.append_ #[36, 36] ty #[v, y]).run Tryz.prog u = .ok v' u' ∧ QRow u' base v' (xs ++ ys) ∧ u.grownBy u' v.ownBlock := by
  obtain ⟨g, off, cap, cur, rfl, h2, h3, h4, h5, h6, h7⟩ := hq
  rcases hy with ⟨rfl, rfl⟩ | ⟨a, c, rfl, hn⟩
  · refine ⟨.slice (some ⟨g, off, none⟩) xs.length cap, u, ?_, ?_, ⟨rfl, rfl, rfl, Nat.le_refl _, fun _ _ _ => rfl⟩⟩
    · have hst := run_storeCells_at (P := Tryz.prog) g (off + xs.length) 3 [] 0 cur u h3 (by simp; omega) (by simp)
      simp only [List.length_nil, Nat.add_zero, List.append_nil, List.take_append_drop, Array.toArray_toList] at hst
      rw [setRow_self u g cur 3 (0, 0) h3] at hst
      simp [Builtin.append_, run_underlying Tryz.underlying36, sizeOf, typeInfo, hi, Builtin.lenOf, h4, Builtin.firstCells, Addr.add_lit, hsize, hst]
    · rw [List.append_nil]; exact ⟨g, off, cap, cur, rfl, h2, h3, h4, h5, h6, h7⟩
  · have hnews : ∀ j q, (ys.map Zv)[j]? = some q → u.cell? (a.add j) = some q := by
      intro j q hj
      rw [List.getElem?_map] at hj
      cases hy : ys[j]? with
      | none => rw [hy] at hj; cases hj
      | some z => rw [hy] at hj; cases hj; exact hn j z hy
    have hl : (ys.map Zv).length = ys.length * i.size := by rw [hsize]; exact len_map_int ys
    by_cases hroom : xs.length + ys.length ≤ cap
    · have hf := run_firstCells_some (P := Tryz.prog) u i.size ys.length a ys.length c (ys.map Zv) hl hnews
      have hst := run_storeCells_at (P := Tryz.prog) g (off + xs.length) 3 (ys.map Zv) 0 cur u h3 (by simp; omega) (map_int_one ys)
      simp only [Nat.add_zero] at hst
      rw [hsize] at hf
      refine ⟨.slice (some ⟨g, off, none⟩) (xs.length + ys.length) cap, u.setRow g (cur.toList.take (off + xs.length) ++ ys.map Zv ++ cur.toList.drop (off + xs.length + (ys.map Zv).length)).toArray, ?_, ⟨g, off, cap, _, ?_, h2, setRow_heap u g cur _ 3 _ h3, ?_, ?_, h6, fun j z hj => ?_⟩, ⟨rfl, rfl, rfl, by simp, fun k _ hk => Go.setRow_other u g k _ (fun e => hk (by simp [Value.ownBlock, e]))⟩⟩
      · simp [Builtin.append_, run_underlying Tryz.underlying36, sizeOf, typeInfo, hi, Builtin.lenOf, hroom, hf, Addr.add_lit, hsize, hst]
      · rw [List.length_append]
      · rw [List.length_append]; exact hroom
      · simp; omega
      · have hsz : off + xs.length ≤ cur.size := by omega
        have hT : (cur.toList.take (off + xs.length)).length = off + xs.length := by simp; omega
        simp only [List.getElem?_toArray]
        rw [List.append_assoc]
        rw [List.getElem?_append] at hj
        by_cases hjx : j < xs.length
        · rw [if_pos hjx] at hj
          rw [List.getElem?_append_left (by rw [hT]; omega), List.getElem?_take_of_lt (by omega), Array.getElem?_toList]
          exact h7 j z hj
        · rw [if_neg hjx] at hj
          rw [List.getElem?_append_right (by rw [hT]; omega), hT, show off + j - (off + xs.length) = j - xs.length by omega]
          have hlt : j - xs.length < ys.length := (List.getElem?_eq_some_iff.1 hj).1
          rw [List.getElem?_append_left (by simp; omega), List.getElem?_map, hj]
          rfl
    · have holds : ∀ j q, (xs.map Zv)[j]? = some q → u.cell? ((⟨g, off, none⟩ : Addr).add j) = some q := by
        intro j q hj
        rw [List.getElem?_map] at hj
        cases hx : xs[j]? with
        | none => rw [hx] at hj; cases hj
        | some z =>
          rw [hx] at hj; cases hj
          rw [Addr.add_lit, cell_of_row u g (off + j) cur 3 (0, 0) h3]
          exact h7 j z hx
      have hlo : (xs.map Zv).length = xs.length * i.size := by rw [hsize]; exact len_map_int xs
      have hr := run_append_grow (P := Tryz.prog) u 36 ty 3 i (.int .i64 0) Tryz.underlying36 hi hz ⟨g, off, none⟩ xs.length cap (xs.map Zv) hlo holds a ys.length c (ys.map Zv) hl hnews (by omega) (by omega) (growslice_fits (by omega) (by rw [hby]; omega))
      have hge := grownCap_ge u (xs.length + ys.length) cap 3
      have hcm : grownCap u (xs.length + ys.length) cap 3 ≤ maxLen := grownCap_le_maxLen u (xs.length + ys.length) cap 3 (by unfold maxLen; omega)
      refine ⟨_, _, hr, ⟨u.heap.size, 0, _, _, by rw [List.length_append], hbase, heap_alloc_new u.drew _, by rw [List.length_append]; exact hge, ?_, hcm, fun j z hj => ?_⟩, ⟨rfl, rfl, rfl, by simp, fun k hk _ => heap_alloc_old u.drew _ hk⟩⟩
      · simp only [Array.size_append, List.size_toArray, size_zeroCells, List.length_map]
        show 0 + _ ≤ xs.length + ys.length + _ * 1
        omega
      · have hlt : j < (xs ++ ys).length := (List.getElem?_eq_some_iff.1 hj).1
        have e : (xs.map Zv).toArray ++ (ys.map Zv).toArray = ((xs ++ ys).map Zv).toArray := by simp
        rw [e, Nat.zero_add, Array.getElem?_append_left (by simpa using hlt)]
        simp only [List.getElem?_toArray, List.getElem?_map, hj]
        rfl
end Go.Proofs.YtdbphpekhmlmdaaGreatDoor

/-
  What falls with a node: what both sides reckon.
-/
namespace Go.Proofs.YtdbphpekhmlmdaaGreatDoor
open Go.RowKit
set_option linter.unusedVariables false

/-- A map of pointers by numbers. -/
def NMap (u : World) (m n : Nat) (f : Int → Value) : Prop := ∃ D : DataW Value, u.ownsMap Tryz.prog 3 anyElem m n D ∧ ∀ z, (Lit.int .i64 z).wf = true → D.atKey (.int .i64 z) (.held (.pointer none)) = .held (f z)
theorem Stand.nmap {w : World} {m n : Nat} {ao : Option Addr} {X : Nat → Nd} (h : Stand w m ao X n) : NMap w m n (stP ao X n) := let ⟨D, h1, h2, _⟩ := h; ⟨D, h1, h2⟩
theorem NMap.look {w : World} {m n : Nat} {f : Int → Value} (h : NMap w m n f) (z : Int) (hz : (Lit.int .i64 z).wf = true) : (Instr.lookup 71 (.map (some m)) (.int .i64 z) false).run Tryz.prog w = .ok (f z) w := by
  obtain ⟨D, h1, h2⟩ := h
  obtain ⟨v, ps, hrun, hv⟩ := h1.lookup int_law Tryz.underlying71 (ptr_zero w) (zd := .held (.pointer none)) (zp := []) rfl (Go.Maps.keyOf_int_mk Tryz.underlying3 hz)
  rw [h2 z hz] at hv
  rw [hrun, anyElem_inv hv]
theorem NMap.next {w u : World} {m n : Nat} {f : Int → Value} (h : NMap w m n f) (hb : Below w.heap.size w u) : NMap u m n f := let ⟨D, h1, h2⟩ := h; ⟨D, ownsMap_next h1 hb, h2⟩
theorem NMap.kept {w u : World} {m n : Nat} {f : Int → Value} {row : Option Nat} (h : NMap w m n f) (hg : w.grownBy u row) (hne : some m ≠ row) : NMap u m n f := let ⟨D, h1, h2⟩ := h; ⟨D, h1.kept hg hne, h2⟩
/-- How many entries a map has. -/
def msize (u : World) (m : Nat) : Nat := match u.heap[m]? with | some (.map es _) => es.size | _ => 0
theorem ownsMap_msize {w : World} {P : Program} {k : TypeId} {R : Value → Option (DataW Value × List MemPlace)} {m n : Nat} {D : DataW Value} (h : w.ownsMap P k R m n D) : msize w m = Maps.size D := by
  obtain ⟨es, c, h1, _, _, rfl⟩ := h
  unfold msize
  rw [h1]
  simp [Maps.size, length_sorted]
theorem NMap.size {w : World} {m n : Nat} {f : Int → Value} (h : NMap w m n f) : msize w m ≤ n := by
  obtain ⟨D, h1, _⟩ := h
  rw [ownsMap_msize h1]; exact h1.size_le
theorem msize_kept {w u : World} {m : Nat} {row : Option Nat} (hg : w.grownBy u row) (hm : m < w.heap.size) (hne : some m ≠ row) : msize u m = msize w m := by
  unfold msize; rw [hg.block m hm hne]
theorem NMap.lt {w : World} {m n : Nat} {f : Int → Value} (h : NMap w m n f) : m < w.heap.size := let ⟨D, h1, _⟩ := h; h1.lt
theorem NMap.del {w : World} {m n : Nat} {f : Int → Value} (h : NMap w m n f) (z : Int) (hz : (Lit.int .i64 z).wf = true) (hne : f z ≠ .pointer none) (ty : TypeId) :
    ∃ w', (Builtin.delete_ #[71, 3] ty #[.map (some m), .int .i64 z]).run Tryz.prog w = .ok (.tuple #[]) w' ∧ NMap w' m n (fun y => if y = z then .pointer none else f y) ∧ w.grownBy w' (some m) ∧ msize w' m + 1 = msize w m := by
  obtain ⟨D, h1, h2⟩ := h
  have hT := h1.tidy int_law
  have hh : Maps.has D (.int .i64 z) = true := by
    cases hc : Maps.has D (.int .i64 z) with
    | true => rfl
    | false =>
      have := Go.Maps.atKey_of_not_has hc (.held (.pointer none))
      rw [h2 z hz] at this
      injection this with e
      exact absurd e hne
  obtain ⟨w', hrun, hown, hg⟩ := h1.drop int_law Tryz.underlying71 (Go.Maps.keyOf_int_mk Tryz.underlying3 hz) ty
  refine ⟨w', hrun, ⟨_, hown, fun y hy => ?_⟩, hg.grown, ?_⟩
  · dsimp only
    by_cases e : y = z
    · rw [if_pos e, e, Go.Maps.atKey_del_same]
    · rw [if_neg e, Go.Maps.atKey_del_other (by intro e'; cases e'; exact e rfl), h2 y hy]
  · rw [ownsMap_msize hown, ownsMap_msize h1]
    have := Go.Maps.size_del (k := .int .i64 z) hT
    rw [hh] at this
    simpa using this
/-- What stands once those of G are gone. -/
def goneF (G : Int → Bool) (f : Int → Value) (z : Int) : Value := if G z = true then .pointer none else f z
theorem goneF_more (G : Int → Bool) (f : Int → Value) (z : Int) : (fun y => if y = z then Value.pointer none else goneF G f y) = goneF (fun y => decide (y = z) || G y) f := by
  funext y
  unfold goneF
  dsimp only
  by_cases e : y = z
  · simp [e]
  · simp [e]
theorem goneF_no (f : Int → Value) : goneF (fun _ => false) f = f := by funext y; rfl
structure FInv (X : Nat → Nd) (n : Nat) (R : Int → Prop) (top : Int) (G : Int → Bool) (xs : List Int) : Prop where
  g1 : ∀ z, G z = true → R z ∧ ¬ firstN X z n < 0
  q1 : ∀ z, z ∈ xs → R z ∧ (Lit.int .i64 z).wf = true
  q2 : ∀ p, G p = true → ∀ z, z ∈ kidsL X n p → G z = true ∨ z ∈ xs
  q3 : ¬ firstN X top n < 0 → G top = true ∨ top ∈ xs
theorem FInv.start {X : Nat → Nd} {n : Nat} {R : Int → Prop} {top : Int} (h1 : R top) (h2 : (Lit.int .i64 top).wf = true) : FInv X n R top (fun _ => false) [top] :=
  ⟨fun z h => (Bool.false_ne_true h).elim, fun z h => (List.mem_singleton.1 h) ▸ ⟨h1, h2⟩, fun p h => (Bool.false_ne_true h).elim, fun _ => .inr (List.mem_singleton.2 rfl)⟩
theorem kid_first {X : Nat → Nd} {n : Nat} {p z : Int} (h : z ∈ kidsL X n p) : ¬ firstN X z n < 0 := by
  obtain ⟨j, hj, _, e⟩ := kids_mem.1 h
  rcases first_is (X := X) (id := z) n with ⟨_, h2⟩ | ⟨k, _, e2, _⟩
  · exact absurd e (h2 j hj)
  · omega
/-- The first of the list does not stand. -/
theorem FInv.pass {X : Nat → Nd} {n : Nat} {R : Int → Prop} {top z : Int} {G : Int → Bool} {r : List Int} (h : FInv X n R top G (z :: r)) (hz : G z = true ∨ firstN X z n < 0) : FInv X n R top G r := by
  refine ⟨h.g1, fun y hy => h.q1 y (List.mem_cons_of_mem _ hy), fun p hp y hy => ?_, fun ht => ?_⟩
  · rcases h.q2 p hp y hy with h1 | h1
    · exact .inl h1
    · rcases List.mem_cons.1 h1 with e | h1
      · subst e
        rcases hz with hz | hz
        · exact .inl hz
        · exact absurd hz (kid_first hy)
      · exact .inr h1
  · rcases h.q3 ht with h1 | h1
    · exact .inl h1
    · rcases List.mem_cons.1 h1 with e | h1
      · subst e
        exact .inl (hz.resolve_right ht)
      · exact .inr h1
/-- It stands: it falls, and its kids wait. -/
theorem FInv.fall {X : Nat → Nd} {n : Nat} {R : Int → Prop} {top z : Int} {G : Int → Bool} {r : List Int} (h : FInv X n R top G (z :: r)) (hz : ¬ firstN X z n < 0) (hR : ∀ p, R p → ¬ firstN X p n < 0 → ∀ y, y ∈ kidsL X n p → R y)
    (hw : ∀ i, i < n → (Lit.int .i64 (X i).id).wf = true) : FInv X n R top (fun y => decide (y = z) || G y) (r ++ kidsL X n z) := by
  have hRz := (h.q1 z (List.mem_cons_self ..)).1
  refine ⟨fun y hy => ?_, fun y hy => ?_, fun p hp y hy => ?_, fun ht => ?_⟩
  · simp only [Bool.or_eq_true, decide_eq_true_eq] at hy
    rcases hy with e | hy
    · rw [e]; exact ⟨hRz, hz⟩
    · exact h.g1 y hy
  · rcases List.mem_append.1 hy with hy | hy
    · exact h.q1 y (List.mem_cons_of_mem _ hy)
    · refine ⟨hR z hRz hz y hy, ?_⟩
      obtain ⟨j, hj, _, e⟩ := kids_mem.1 hy
      rw [← e]; exact hw j hj
  · simp only [Bool.or_eq_true, decide_eq_true_eq] at hp ⊢
    by_cases e : p = z
    · subst e; exact .inr (List.mem_append.2 (.inr hy))
    · rcases h.q2 p (hp.resolve_left e) y hy with h1 | h1
      · exact .inl (.inr h1)
      · rcases List.mem_cons.1 h1 with e2 | h1
        · exact .inl (.inl e2)
        · exact .inr (List.mem_append.2 (.inl h1))
  · simp only [Bool.or_eq_true, decide_eq_true_eq]
    rcases h.q3 ht with h1 | h1
    · exact .inl (.inr h1)
    · rcases List.mem_cons.1 h1 with e2 | h1
      · exact .inl (.inl e2)
      · exact .inr (List.mem_append.2 (.inl h1))
theorem grown_far {w u u' : World} {row r2 : Option Nat} (h : w.grownBy u row) (k : u.grownBy u' r2) (hr : ∀ g, r2 = some g → w.heap.size ≤ g) : w.grownBy u' row :=
  ⟨k.os.trans h.os, k.tape.trans h.tape, k.output.trans h.output, Nat.le_trans h.size k.size, fun i hi hne => (k.block i (Nat.lt_of_lt_of_le hi h.size) (fun e => by have := hr i e.symm; omega)).trans (h.block i hi hne)⟩
theorem Brood.kept {w u : World} {base m k q : Nat} {X : Nat → Nd} {V : Int → Value} (h : Brood w base m X k V) (hg : w.grownBy u (some q)) (hq : q < base) (hqm : q ≠ m) : Brood u base m X k V :=
  ⟨let ⟨D, h1, h2⟩ := h.map; ⟨D, h1.kept hg (fun e => by cases e; exact hqm rfl), h2⟩, fun p hp => (h.row p hp).kept hg (by
    cases hv : (V p).ownBlock with
    | none => exact .inl rfl
    | some g => exact .inr (fun e => by cases e; have := ((h.row p hp).lt q hv).1; omega)), h.apart, h.lt⟩
/-- The length of a list. -/
def lenV : Value → Nat
  | .slice _ n _ => n
  | _ => 0
theorem wpList_delete_nm {w : World} {ops : Array Oper} {rest : List Oper} {o : Oper} {a : Act} {Q : Exit → Act → World → Prop} (hg : o.guard = none) (m x : Operand)
    (hop : o.op = Op.call { callee := Callee.builtin Builtin.delete, args := #[m, x], argTypes := #[71, 3] }) (b n : Nat) (f : Int → Value) (hm : a.eval m = .map (some b)) (h : NMap w b n f) (z : Int) (hx : a.eval x = .int .i64 z) (hz : (Lit.int .i64 z).wf = true) (hne : f z ≠ .pointer none)
    (hK : ∀ w', NMap w' b n (fun y => if y = z then .pointer none else f y) → w.grownBy w' (some b) → msize w' b + 1 = msize w b → wpList Tryz.prog ops Q rest (a.put o.dst (.tuple #[])) w') : wpList Tryz.prog ops Q (o :: rest) a w := by
  refine wpList_plain hg fun K' hK' => ?_
  obtain ⟨w', hrun, r1, r2, r3⟩ := h.del z hz hne o.type
  unfold Oper.wp
  simp [execOp, hop, resolve, invoke, builtin, hm, hx, hrun, Result.andThen]
  exact hK' _ _ (hK w' r1 r2 r3)
theorem wpList_append_queue {w : World} {ops : Array Oper} {rest : List Oper} {o : Oper} {a : Act} {Q : Exit → Act → World → Prop} (hg : o.guard = none) (s x : Operand)
    (hop : o.op = .call { callee := .builtin .append, args := #[s, x], argTypes := #[36, 36] }) (base : Nat) (i : TypeInfo) (hi : Tryz.prog.info? 3 = some i) (hz : i.zero = some (.int .i64 0)) (hsize : i.size = 1) (hby : i.bytes = 8)
    (v y : Value) (xs ys : List Int) (hs : a.eval s = v) (hx : a.eval x = y) (hq : QRow w base v xs) (hy : IntsAt w y ys) (hlen : xs.length + ys.length ≤ 1099511627776) (hbase : base ≤ w.heap.size)
    (hK : ∀ v' w', QRow w' base v' (xs ++ ys) → w.grownBy w' v.ownBlock → wpList Tryz.prog ops Q rest (a.put o.dst v') w') : wpList Tryz.prog ops Q (o :: rest) a w := by
  refine wpList_plain hg fun K' hK' => ?_
  obtain ⟨v', w', hrun, r1, r2⟩ := run_append_queue i hi hz hsize hby hq hy hlen hbase o.type
  unfold Oper.wp
  simp [execOp, hop, resolve, invoke, builtin, hs, hx, hrun, Result.andThen]
  exact hK' _ _ (hK v' w' r1 r2)
theorem QRow.block {u : World} {base : Nat} {v : Value} {xs : List Int} (h : QRow u base v xs) : ∀ g, v.ownBlock = some g → base ≤ g := by
  obtain ⟨g, off, cap, cur, rfl, h2, _⟩ := h
  intro k hk
  simp only [Value.ownBlock, Option.some.injEq] at hk
  omega
end Go.Proofs.YtdbphpekhmlmdaaGreatDoor

/-
  The program's broodsOf.
-/
namespace Go.Proofs.YtdbphpekhmlmdaaGreatDoor
open Go.RowKit
set_option linter.unusedVariables false

set_option maxHeartbeats 8000000 in
set_option maxRecDepth 100000 in
theorem implBroodsOf_any (X : Nat → Nd) (A : Nat → Na) (ao : Option Addr) (n cp : Nat) (hn : n ≤ 1048576) (hf : ∀ i, i < n → (Lit.int .i64 (X i).par).wf = true) (w : World) (P : ∀ i, i < n → NrAt w ao i (X i) (A i)) :
    Calls Tryz.prog 89 #[.agg #[.slice ao n cp]] w fun r w' => ∃ m V, r = .returned (.map (some m)) ∧ Brood w' (m + 1) m X n V ∧ w.heap.size ≤ m ∧ Below w.heap.size w w' := by
  have hmm := @run_makeMap Tryz.prog
  obtain ⟨i0, hi, hz0, hz1, hz2⟩ := info_parts infoInt15
  replace P := hide P
  replace hf := hide hf
  go_enter Tryz.func89, Tryz.ntmps89
  go_upto_region 1 with fail
  have R := hide (new_row w (.cells #[.slice ao n cp] 26))
  have HB := hide (al1_below w (.cells #[.slice ao n cp] 26))
  have hm := hide (show w.heap.size < (w.alloc (.cells #[.slice ao n cp] 26)).heap.size by rw [al1_size]; omega)
  generalize w.alloc (.cells #[.slice ao n cp] 26) = W at R HB hm ⊢
  obtain ⟨b1, hb1⟩ : ∃ z, Hid (z = w.heap.size) := ⟨_, rfl⟩
  rw [← unhide hb1] at R hm ⊢
  go_upto_region 2 with fail
  have S := hide (Brood.made W X)
  have hms := hide (show W.heap.size < (W.alloc (.map #[] 0)).heap.size by rw [al1_size]; omega)
  replace R := hide (row_next (al1_below W (.map #[] 0)) (unhide R))
  replace HB := hide (below_two (unhide HB) (al1_below W (.map #[] 0)))
  generalize W.alloc (.map #[] 0) = W2 at R HB S hms ⊢
  generalize W.heap.size = m at S hm hms ⊢
  clear hmm
  have c0 := row1 (unhide R)
  go_upto_region 3 with fail
  clear c0
  go_loopw [10] (fun i u => ∃ (k : Nat) (V : Int → Value), k ≤ n ∧ i = .int .i64 (k : Int) ∧ Hid (Brood u (m + 1) m X k V) ∧ Hid (m < u.heap.size) ∧ Hid (Below w.heap.size w u)) (fun i _ => n - (intOf i).toNat)
  case atStart => exact ⟨0, _, Nat.zero_le _, rfl, S, hms, HB⟩
  case round =>
    clear S R HB hms
    obtain ⟨k, V, hk, rfl, S, hms, HB⟩ := hrel
    by_cases hkn : k < n
    · have hki : (k : Int) < (n : Int) := by omega
      have HP := hide ((unhide P k hkn).next (unhide HB))
      have hfk := hide (unhide hf k hkn)
      have hle := hide (kids_le X k (X k).par)
      have HPUT := hide (fun (u w1 : World) (v' : Value) (h : Brood u (m + 1) m X k V) => h.put (w1 := w1) (by omega) (unhide hfk) v')
      have HROW := hide (fun (u : World) (h : Brood u (m + 1) m X k V) => h.row (X k).par (unhide hfk))
      have HLOOK := hide (fun (u : World) (h : Brood u (m + 1) m X k V) => h.look (X k).par (unhide hfk))
      generalize kidsL X k (X k).par = L at hle HPUT HROW
      obtain ⟨xx, hxx⟩ : ∃ z, Hid (X k = z) := ⟨_, rfl⟩
      obtain ⟨ss, hss⟩ : ∃ z, Hid (A k = z) := ⟨_, rfl⟩
      rw [unhide hxx, unhide hss] at HP
      rw [unhide hxx] at HPUT HROW HLOOK
      obtain ⟨b, o, hao, hrg⟩ := (unhide HP).range
      replace hrg := hide hrg
      subst hao
      go_upto_region 5 with (first | refine load_node rfl _ rfl b (o + k * 31) rfl xx ss (unhide hrg) ?_ | refine store_new rfl _ _ rfl _ xx ss rfl rfl rfl ?_)
      have R4 := hide (new_row wr (.cells (ndC xx ss) 47))
      have D4 := hide (al1_below wr (.cells (ndC xx ss) 47))
      have hlt := hide (fun g (e : (V xx.par).ownBlock = some g) => ((unhide HROW wr (unhide S)).lt g e).2)
      replace S := hide ((unhide S).next (unhide D4))
      have hb4 : Hid (m + 1 ≤ wr.heap.size) := unhide hms
      replace hms := hide (show m + 1 ≤ (wr.alloc (.cells (ndC xx ss) 47)).heap.size by have := unhide hms; rw [al1_size]; omega)
      replace HB := hide (below_two (unhide HB) (unhide D4))
      clear hrg HP D4
      generalize wr.alloc (.cells (ndC xx ss) 47) = W4 at R4 HB S hms ⊢
      generalize wr.heap.size = b4 at R4 hb4 hlt ⊢
      obtain ⟨c0, c1, _⟩ := headsC (unhide R4)
      have hl1 : (Instr.lookup 126 (.map (some m)) (.int .i64 xx.par) false).run Tryz.prog W4.drew = .ok (V xx.par) W4.drew := unhide HLOOK W4.drew ((unhide S).next (Below.refl _ _).drew)
      have hl2 : (Instr.lookup 126 (.map (some m)) (.int .i64 xx.par) false).run Tryz.prog (W4.alloc (.cells #[.int .i64 xx.id] 3)).drew = .ok (V xx.par) (W4.alloc (.cells #[.int .i64 xx.id] 3)).drew := unhide HLOOK _ ((unhide S).next (al1_below W4 _).drew)
      have hO := hide (unhide HROW W4 (unhide S))
      have hA : Hid (∀ w1 : World, W4.grownBy w1 (V xx.par).ownBlock → (w1.cell? ⟨b4, 0, none⟩ = some (.int .i64 xx.id) ∧ w1.cell? ⟨b4, 1, none⟩ = some (.int .i64 xx.par))) := fun w1 hg => by
        have hne : some b4 ≠ (V xx.par).ownBlock := fun e => by have := unhide hlt b4 e.symm; omega
        exact ⟨hg.cell c0 hne, hg.cell c1 hne⟩
      have hB : Hid (∀ w1 w2 : World, (w1.cell? ⟨b4, 0, none⟩ = some (.int .i64 xx.id) ∧ w1.cell? ⟨b4, 1, none⟩ = some (.int .i64 xx.par)) → w1.grownBy w2 (some m) → (w2.cell? ⟨b4, 0, none⟩ = some (.int .i64 xx.id) ∧ w2.cell? ⟨b4, 1, none⟩ = some (.int .i64 xx.par))) := fun w1 w2 hc hg => by
        have hne : some b4 ≠ some m := fun e => by cases e; have := unhide hb4; omega
        exact ⟨hg.cell hc.1 hne, hg.cell hc.2 hne⟩
      have hC : Hid (∀ w1 w2 : World, W4.grownBy w1 (V xx.par).ownBlock → w1.grownBy w2 (some m) → Below w.heap.size w w2) := fun w1 w2 g1 g2 => by
        have hwm : w.heap.size ≤ m := by have := unhide hm; have := unhide hb1; omega
        have h1 : Below w.heap.size w w1 := (unhide HB).grown g1 (unhide HB).size (fun g e => by have := ((unhide hO).lt g e).1; omega)
        exact h1.grown g2 h1.size (fun g e => by cases e; exact hwm)
      have k1 : Hid (W4.drew.cell? ⟨b4, 0, none⟩ = some (.int .i64 xx.id) ∧ W4.drew.cell? ⟨b4, 1, none⟩ = some (.int .i64 xx.par)) := ⟨c0, c1⟩
      have k2 : Hid ((W4.alloc (.cells #[.int .i64 xx.id] 3)).drew.cell? ⟨b4, 0, none⟩ = some (.int .i64 xx.id) ∧ (W4.alloc (.cells #[.int .i64 xx.id] 3)).drew.cell? ⟨b4, 1, none⟩ = some (.int .i64 xx.par)) := ⟨kn _ c0, kn _ c1⟩
      clear c0 c1
      go_region_held3 (fun u => u.cell? ⟨b4, 0, none⟩ = some (.int .i64 xx.id) ∧ u.cell? ⟨b4, 1, none⟩ = some (.int .i64 xx.par)) (first | with_reducible assumption | with_reducible exact unhide k1 | with_reducible exact unhide k2) ((refine step_append_id rfl _ _ rfl (m + 1) i0 hi hz0 hz1 hz2 (V xx.par) L rfl (unhide hO) xx.id 1 rfl (by have := unhide hle; omega) (unhide hms) ?_; intro v1 w1 o1 g1 l1; obtain ⟨w2, hrun2, B2, g2⟩ := unhide HPUT W4 w1 v1 (unhide S) g1 o1 l1; have s1 := unhide hA w1 g1; have s2 := unhide hB w1 w2 s1 g2; have d2 := hide (unhide hC w1 w2 g1 g2); replace B2 := hide B2; have z2 := hide (show m < w2.heap.size from Nat.lt_of_lt_of_le (Nat.lt_of_lt_of_le (unhide hms) g1.size) g2.size); clear o1 g1 l1 g2))
      all_goals
        clear hrun2 s1
        go_wp2_with fail
        go_roundw
        case rel => exact ⟨k + 1, _, by omega, by go_num, B2, z2, d2⟩
        case measure => simp [intOf]; omega
    · have hke : k = n := by omega
      subst hke
      have hki : ¬ (k : Int) < (k : Int) := by omega
      go_wp2_with fail
      go_ret
      exact ⟨m, rfl, ⟨V, unhide S⟩, by have := unhide hm; have := unhide hb1; omega, unhide HB⟩
end Go.Proofs.YtdbphpekhmlmdaaGreatDoor

/-
  The program's fell.
-/
namespace Go.Proofs.YtdbphpekhmlmdaaGreatDoor
open Go.RowKit
set_option linter.unusedVariables false

set_option maxHeartbeats 8000000 in
set_option maxRecDepth 100000 in
theorem implFell_any (X : Nat → Nd) (ao : Option Addr) (n m1 m2 base : Nat) (V : Int → Value) (hn : n ≤ 1000) (hw : ∀ i, i < n → (Lit.int .i64 (X i).id).wf = true) (R : Int → Prop) (top : Int) (htw : (Lit.int .i64 top).wf = true) (hRt : R top)
    (hR : ∀ p, R p → ¬ firstN X p n < 0 → ∀ y, y ∈ kidsL X n p → R y) (hao : 0 < n → ∃ b o, ao = some ⟨b, o, none⟩) (w : World) (S : NMap w m1 n (stP ao X n)) (T : Brood w base m2 X n V) (h12 : m1 < base) (hne : m1 ≠ m2) :
    Calls Tryz.prog 88 #[.map (some m1), .int .i64 top, .map (some m2)] w fun r w' => r = .returned (.tuple #[]) ∧ ∃ G, NMap w' m1 n (goneF G (stP ao X n)) ∧ FInv X n R top G [] ∧ w.grownBy w' (some m1) := by
  obtain ⟨i0, hi, hz0, hz1, hz2⟩ := info_parts infoInt15
  replace hw := hide hw
  replace hR := hide hR
  replace hao := hide hao
  replace T := hide T
  have hlt := hide S.lt
  have hF := hide (FInv.start (X := X) (n := n) (R := R) hRt htw)
  have hsz := hide S.size
  replace S := hide S
  clear htw hRt
  go_enter Tryz.func88, Tryz.ntmps88
  go_upto_region 1 with fail
  have Q0 := hide (QRow.start w top)
  have S0 := hide (show NMap (w.alloc (.cells #[.int .i64 top] 3)) m1 n (goneF (fun _ => false) (stP ao X n)) by rw [goneF_no]; exact (unhide S).next (al1_below w _))
  have G0 := hide (World.grownBy_alloc w (.cells #[.int .i64 top] 3) (some m1))
  have hs0 := hide (show msize (w.alloc (.cells #[.int .i64 top] 3)) m1 ≤ n by rw [msize_kept (World.grownBy_alloc w _ none) (unhide hlt) (by simp)]; exact unhide hsz)
  generalize w.alloc (.cells #[.int .i64 top] 3) = W at Q0 S0 G0 hs0 ⊢
  go_loopw [6] (fun v u => ∃ (xs : List Int) (G : Int → Bool), Hid (QRow u w.heap.size v xs) ∧ Hid (NMap u m1 n (goneF G (stP ao X n))) ∧ Hid (w.grownBy u (some m1)) ∧ Hid (FInv X n R top G xs) ∧ Hid (xs.length + msize u m1 * (n + 1) ≤ n * (n + 1) + 1)) (fun v u => lenV v + msize u m1 * (n + 1))
  case atStart => exact ⟨[top], _, Q0, S0, G0, hF, by have := unhide hs0; have h2 := Nat.mul_le_mul_right (n + 1) this; show 1 + msize W m1 * (n + 1) ≤ _; omega⟩
  case round =>
    clear Q0 S0 G0 hF hs0
    obtain ⟨xs, G, Q, S1, G1, F, hb⟩ := hrel
    cases xs with
    | nil =>
      obtain ⟨a, c, rfl⟩ := (unhide Q).none
      go_wp2_with fail
      go_end0
      exact ⟨rfl, G, unhide S1, unhide F, unhide G1⟩
    | cons z r =>
      obtain ⟨hRz, hzw⟩ := (unhide F).q1 z (List.mem_cons_self ..)
      replace hzw := hide hzw
      have hl := (unhide S1).look z (unhide hzw)
      obtain ⟨g, off, c, rfl, hc0, hgb, hrc, hcm, ht1, ht0⟩ := (unhide Q).form
      replace hgb := hide hgb
      replace ht1 := hide ht1
      replace ht0 := hide ht0
      have hpos : (0 : Int) < ((r.length + 1 : Nat) : Int) := by omega
      by_cases hst : G z = true ∨ firstN X z n < 0
      · have e : goneF G (stP ao X n) z = .pointer none := by
          unfold goneF
          by_cases hg : G z = true
          · rw [if_pos hg]
          · rw [if_neg hg]; exact stP_none (hst.resolve_left hg)
        rw [e] at hl
        have F2 := hide ((unhide F).pass hst)
        have hb2 := hide (show r.length + msize wr m1 * (n + 1) ≤ n * (n + 1) + 1 by have := unhide hb; simp only [List.length_cons] at this; omega)
        clear e hst
        by_cases hc : c = 0
        · subst hc
          obtain ⟨Q2, hr0⟩ := unhide ht0 rfl
          replace Q2 := hide Q2
          subst hr0
          go_wp2_with fail
          go_roundw
          case rel => exact ⟨[], G, Q2, S1, G1, F2, hb2⟩
          case measure => simp [lenV]
        · have Q2 := hide (unhide ht1 (by omega))
          go_wp2_with fail
          go_roundw
          case rel => exact ⟨r, G, Q2, S1, G1, F2, hb2⟩
          case measure => simp [lenV]
      · have hnf : ¬ firstN X z n < 0 := fun e => hst (.inr e)
        have hnG : G z = false := by cases e : G z with | false => rfl | true => exact absurd (.inl e) hst
        obtain ⟨k, hk, hfk⟩ : ∃ k, k < n ∧ firstN X z n = (k : Int) := by
          rcases first_is (X := X) (id := z) n with ⟨e, _⟩ | ⟨k, hk, e, _⟩
          · omega
          · exact ⟨k, hk, e⟩
        obtain ⟨b, o, hab⟩ := unhide hao (by omega)
        have e : goneF G (stP ao X n) z = .pointer (some ⟨b, o + k * 31, none⟩) := by
          unfold goneF
          rw [if_neg (by rw [hnG]; exact Bool.false_ne_true), hab]
          exact stP_at hfk
        have hnp : Hid (goneF G (stP ao X n) z ≠ .pointer none) := by rw [e]; intro h; cases h
        rw [e] at hl
        have F2 := hide ((unhide F).fall hnf (fun p h1 h2 => unhide hR p h1 (by omega)) (unhide hw))
        have hkl := hide (kids_le X n z)
        have hb0 := hide (show r.length + 1 + msize wr m1 * (n + 1) ≤ n * (n + 1) + 1 by have := unhide hb; simp only [List.length_cons] at this; omega)
        have hbig := hide (show n * (n + 1) ≤ 1001000 by have := Nat.mul_le_mul hn (Nat.add_le_add_right hn 1); omega)
        have hT1 := hide ((unhide T).kept (unhide G1) h12 hne)
        clear hst hnf hnG hk hfk e F
        go_upto_region 6 with (at_delete; go_must (refine wpList_delete_nm rfl _ _ rfl m1 n _ rfl (unhide S1) z rfl (unhide hzw) (unhide hnp) ?_); intro w1 S2 g1 hms; rw [goneF_more] at S2; replace S2 := hide S2; replace g1 := hide g1; replace hms := hide hms; refine Hid.out ?_)
        have G2 := hide (show w.grownBy w1 (some m1) from (unhide G1).trans (unhide g1))
        have hT2 := hide ((unhide hT1).kept (unhide g1) h12 hne)
        have hl2 := (unhide hT2).look z (unhide hzw)
        have hI := hide (own_ints ((unhide hT2).row z (unhide hzw)))
        have Q2 := hide ((unhide Q).next (unhide g1) (fun q e => by cases e; exact unhide hlt))
        clear hl S1 hT1 hnp hc0 ht1 ht0 Q
        unfold Hid
        go_wp2_with (at_builtin; go_must (refine wpList_append_queue rfl _ _ rfl w.heap.size i0 hi hz0 hz1 hz2 _ _ (z :: r) (kidsL X n z) rfl rfl (unhide Q2) (unhide hI) (by have := unhide hkl; have := unhide hb0; have := unhide hbig; simp only [List.length_cons]; omega) (unhide G2).size ?_); intro v2 w2 Q3 g2; replace Q3 := hide Q3; replace g2 := hide g2; refine Hid.out ?_)
        unfold Hid
        have hfar := hide (fun q (e : (Value.slice (some ⟨g, off, none⟩) (r.length + 1) (c + 1)).ownBlock = some q) => show w.heap.size ≤ q from (unhide Q2).block q e)
        have G3 := hide (grown_far (unhide G2) (unhide g2) (unhide hfar))
        have S3 := hide ((unhide S2).kept (unhide g2) (fun e => by have := unhide hfar m1 e.symm; have := unhide hlt; omega))
        have hms3 := hide (show msize w2 m1 + 1 = msize wr m1 by
          rw [msize_kept (unhide g2) (Nat.lt_of_lt_of_le (unhide hlt) (unhide G2).size) (fun e => by have := unhide hfar m1 e.symm; have := unhide hlt; omega)]
          exact unhide hms)
        obtain ⟨g', off', c', rfl, _, _, hrc', hcm', ht1, ht0⟩ := (show QRow w2 w.heap.size v2 (z :: (r ++ kidsL X n z)) from unhide Q3).form
        have hlk := unhide hkl
        have hmul := hide (show msize wr m1 * (n + 1) = msize w2 m1 * (n + 1) + (n + 1) by rw [← unhide hms3, Nat.add_mul, Nat.one_mul])
        have hb3 := hide (show (r ++ kidsL X n z).length + msize w2 m1 * (n + 1) ≤ n * (n + 1) + 1 by have := unhide hb0; have := unhide hmul; rw [List.length_append]; omega)
        have hdec := hide (show (r ++ kidsL X n z).length + msize w2 m1 * (n + 1) < r.length + 1 + msize wr m1 * (n + 1) by have := unhide hmul; rw [List.length_append]; omega)
        replace ht1 := hide ht1
        replace ht0 := hide ht0
        clear hl2 hfar hms hms3 hmul Q2 Q3 g2 g1 hI hlk
        generalize r ++ kidsL X n z = L at F2 hb3 hdec ht1 ht0 hrc' ⊢
        by_cases hc : c' = 0
        · subst hc
          obtain ⟨Q4, hr0⟩ := unhide ht0 rfl
          replace Q4 := hide Q4
          subst hr0
          go_wp2_with fail
          go_roundw
          case rel => exact ⟨[], _, Q4, S3, G3, F2, hb3⟩
          case measure => have := unhide hdec; simpa [lenV] using this
        · have Q4 := hide (unhide ht1 (by omega))
          go_wp2_with fail
          go_roundw
          case rel => exact ⟨L, _, Q4, S3, G3, F2, hb3⟩
          case measure => have := unhide hdec; simpa [lenV] using this
end Go.Proofs.YtdbphpekhmlmdaaGreatDoor

/-
  The program's UnderOf and DepthOf, of right scenes.
-/
namespace Go.Proofs.YtdbphpekhmlmdaaGreatDoor
open Go.RowKit
set_option linter.unusedVariables false

theorem scOk_noZero {X : Nat → Nd} {n : Nat} (hS : ScOk X n) : firstN X 0 n < 0 := by
  rcases first_is (X := X) (id := 0) n with ⟨e, _⟩ | ⟨k, hk, e, e2, _⟩
  · omega
  · have := (node_ids (okAt_iff.1 (hS.2 k hk)).1).1
    omega
theorem under_near {X : Nat → Nd} {n : Nat} {top : Int} (h0 : firstN X 0 n < 0) (ht : top ≠ 0) : ∀ (g : Nat) (c z : Int) (f : Nat), depthN X n g c z ≠ 0 → underN X n top f z = true → underN X n top g z = true
  | 0, c, z, f, hd, _ => absurd rfl hd
  | g + 1, c, z, 0, _, hu => by cases hu
  | g + 1, c, z, f + 1, hd, hu => by
    unfold depthN at hd
    unfold underN at hu ⊢
    by_cases hz : z = top
    · rw [if_pos hz]
    · rw [if_neg hz] at hu ⊢
      by_cases hf : firstN X z n < 0
      · rw [if_pos hf] at hu; cases hu
      · rw [if_neg hf] at hu ⊢
        by_cases e : z = 0
        · rw [e] at hf; exact absurd h0 hf
        · rw [if_neg e, if_neg hf] at hd
          exact under_near h0 ht g _ _ f hd hu
theorem under_close {X : Nat → Nd} {n : Nat} {top : Int} (hS : ScOk X n) (p : Int) (hp : ∃ f, underN X n top f p = true) (y : Int) (hy : y ∈ kidsL X n p) : ∃ f, underN X n top f y = true := by
  obtain ⟨f, hf⟩ := hp
  obtain ⟨j, hj, e1, e2⟩ := kids_mem.1 hy
  refine ⟨f + 1, ?_⟩
  unfold underN
  by_cases hz : y = top
  · rw [if_pos hz]
  · have hfj : firstN X y n = (j : Int) := by rw [← e2]; exact (okAt_iff.1 (hS.2 j hj)).2.1
    rw [if_neg hz, if_neg (by omega), hfj]
    show underN X n top f (X j).par = true
    rw [e1]; exact hf
theorem gone_under {X : Nat → Nd} {n : Nat} {R : Int → Prop} {top : Int} {G : Int → Bool} (hS : ScOk X n) (ht : ¬ firstN X top n < 0) (hF : FInv X n R top G []) : ∀ (f : Nat) (z : Int), underN X n top f z = true → G z = true
  | 0, z, h => by cases h
  | f + 1, z, h => by
    unfold underN at h
    by_cases hz : z = top
    · rw [hz]
      exact (hF.q3 ht).resolve_right (by simp)
    · rw [if_neg hz] at h
      by_cases hf : firstN X z n < 0
      · rw [if_pos hf] at h; cases h
      · rw [if_neg hf] at h
        obtain ⟨k, hk, e, e2⟩ := first_lt hf
        rw [e] at h
        have ih := gone_under hS ht hF f _ h
        exact (hF.q2 _ ih z (kids_mem.2 ⟨k, hk, rfl, e2⟩)).resolve_right (by simp)
theorem pick_congr {X : Nat → Nd} {p q : Nat → Bool} : ∀ {n : Nat}, (∀ k, k < n → p k = q k) → pickIds X p n = pickIds X q n
  | 0, _ => rfl
  | n + 1, h => by
    unfold pickIds
    rw [h n (by omega), pick_congr (fun k hk => h k (by omega))]
theorem pick_nothing {X : Nat → Nd} {p : Nat → Bool} : ∀ {n : Nat}, (∀ k, k < n → p k = false) → pickIds X p n = []
  | 0, _ => rfl
  | n + 1, h => by
    unfold pickIds
    rw [h n (by omega), pick_nothing (fun k hk => h k (by omega))]
    rfl
open Classical in
/-- What the program may come to from a node on. -/
noncomputable def reachP (X : Nat → Nd) (n : Nat) (top : Int) (z : Int) : Prop := if firstN X top n < 0 then z = top else ∃ f, underN X n top f z = true
theorem reach_top (X : Nat → Nd) (n : Nat) (top : Int) : reachP X n top top := by
  unfold reachP
  by_cases h : firstN X top n < 0
  · rw [if_pos h]
  · rw [if_neg h]; exact ⟨1, by unfold underN; rw [if_pos rfl]⟩
theorem reach_close {X : Nat → Nd} {n : Nat} {top : Int} (hS : ScOk X n) (p : Int) (hp : reachP X n top p) (hf : ¬ firstN X p n < 0) (y : Int) (hy : y ∈ kidsL X n p) : reachP X n top y := by
  unfold reachP at hp ⊢
  by_cases h : firstN X top n < 0
  · rw [if_pos h] at hp
    rw [hp] at hf
    exact absurd h hf
  · rw [if_neg h] at hp ⊢
    exact under_close hS p hp y hy
theorem gone_is {X : Nat → Nd} {n : Nat} {top : Int} {G : Int → Bool} (hS : ScOk X n) (hF : FInv X n (reachP X n top) top G []) : pickIds X (fun k => G (X k).id) n = underL X n top := by
  unfold underL
  by_cases h : firstN X top n < 0
  · rw [if_pos h]
    refine pick_nothing (fun k hk => ?_)
    cases e : G (X k).id with
    | false => rfl
    | true =>
      obtain ⟨g1, g2⟩ := hF.g1 _ e
      unfold reachP at g1
      rw [if_pos h] at g1
      rw [g1] at g2
      exact absurd h g2
  · rw [if_neg h]
    refine pick_congr (fun k hk => ?_)
    obtain ⟨o1, o2, ⟨o3, _⟩, _⟩ := okAt_iff.1 (hS.2 k hk)
    have ht0 : top ≠ 0 := fun e => h (by rw [e]; exact scOk_noZero hS)
    cases e : G (X k).id with
    | true =>
      obtain ⟨g1, _⟩ := hF.g1 _ e
      unfold reachP at g1
      rw [if_neg h] at g1
      obtain ⟨f, hf⟩ := g1
      exact (under_near (scOk_noZero hS) ht0 9 0 _ f (by unfold depthI at o3; omega) hf).symm
    | false =>
      cases e2 : underB X n (X k).id top with
      | false => rfl
      | true =>
        have := gone_under hS h hF 9 _ e2
        rw [e] at this
        cases this

set_option maxHeartbeats 8000000 in
set_option maxRecDepth 100000 in
theorem implUnderOf_right (X : Nat → Nd) (A : Nat → Na) (ao : Option Addr) (n cp : Nat) (hS : ScOk X n) (id : Int) (hid : (Lit.int .i64 id).wf = true) (w : World) (P : ∀ i, i < n → NrAt w ao i (X i) (A i)) :
    Calls Tryz.prog 55 #[.agg #[.slice ao n cp], .int .i64 id] w fun r w' => IdsRes w r w' (underL X n id) := by
  obtain ⟨i0, hi, hz0, hz1, hz2⟩ := info_parts infoInt15
  have hn8 : n ≤ 8 := hS.1
  have hw1 : ∀ i, i < n → (Lit.int .i64 (X i).id).wf = true := fun i hi => WalkArith.wf_i64 (by have := (node_ids (okAt_iff.1 (hS.2 i hi)).1).1; omega)
  have hw2 : ∀ i, i < n → (Lit.int .i64 (X i).par).wf = true := fun i hi => WalkArith.wf_i64 (by have := (node_ids (okAt_iff.1 (hS.2 i hi)).1).2.1; omega)
  have E1 := hide (fun u => implStandingOf_any X A ao n cp (by omega) hw1 u)
  have E2 := hide (fun u => implBroodsOf_any X A ao n cp (by omega) hw2 u)
  have hao : 0 < n → ∃ b o, ao = some ⟨b, o, none⟩ := fun h => let ⟨b, o, e, _⟩ := P 0 h; ⟨b, o, e⟩
  have E3 := hide (fun u m1 m2 base V => implFell_any X ao n m1 m2 base V (by omega) hw1 (reachP X n id) id hid (reach_top X n id) (reach_close hS) hao u)
  have hfin := hide (fun G (h : FInv X n (reachP X n id) id G []) => gone_is hS h)
  have hfst : Hid (∀ k, k < n → firstN X (X k).id n = (k : Int)) := fun k hk => (okAt_iff.1 (hS.2 k hk)).2.1
  replace hw1 := hide hw1
  clear hw2 hid hS hao
  replace P := hide P
  unfold IdsRes
  generalize underL X n id = L0 at hfin ⊢
  go_enter Tryz.func55, Tryz.ntmps55
  go_upto_region 1 with fail
  have R := hide (new_row w (.cells #[.slice ao n cp] 26))
  have HB := hide (al1_below w (.cells #[.slice ao n cp] 26))
  have hbs := hide (show w.heap.size < (w.alloc (.cells #[.slice ao n cp] 26)).heap.size by rw [al1_size]; omega)
  obtain ⟨b1, hb1⟩ : ∃ z, Hid (z = w.heap.size) := ⟨_, rfl⟩
  rw [← unhide hb1] at R ⊢
  generalize w.alloc (.cells #[.slice ao n cp] 26) = W at R HB hbs ⊢
  have c0 := row1 (unhide R)
  have F1 := hide (unhide E1 W (fun i hi => (unhide P i hi).next (unhide HB)))
  go_wp2_with fail
  go_fit (unhide F1)
  rintro r u1 ⟨m1, rfl, S, hm1, hb⟩
  replace S := hide S
  replace hm1 := hide hm1
  have hm1s := hide (unhide S).nmap.lt
  replace R := hide (row_next hb (unhide R))
  replace HB := hide (below_two (unhide HB) hb)
  clear hb c0 F1 E1
  have c0 := row1 (unhide R)
  have F2 := hide (unhide E2 u1 (fun i hi => (unhide P i hi).next (unhide HB)))
  go_wp2_with fail
  go_fit (unhide F2)
  rintro r u2 ⟨m2, V, rfl, T, hm2, hb⟩
  replace T := hide T
  replace hm2 := hide hm2
  have NM := hide ((unhide S).nmap.next hb)
  replace R := hide (row_next hb (unhide R))
  replace HB := hide (below_two (unhide HB) hb)
  clear hb c0 F2 E2 S
  have F3 := hide (unhide E3 u2 m1 m2 (m2 + 1) V (unhide NM) (unhide T) (by have := unhide hm1s; have := unhide hm2; omega) (by have := unhide hm1s; have := unhide hm2; omega))
  go_wp2_with fail
  go_fit (unhide F3)
  rintro r u3 ⟨rfl, G, NG, FI, hg⟩
  replace NG := hide NG
  have hL := hide (unhide hfin G FI)
  have hneb : Hid (b1 ≠ m1) := fun e => by have := unhide hm1; have := unhide hbs; have := unhide hb1; omega
  replace R := hide (show u3.heap[b1]? = some (.cells #[.slice ao n cp] 26 (0, 0)) from (hg.block b1 (heap_lt (unhide R)) (fun e => by cases e; exact unhide hneb rfl)).trans (unhide R))
  replace HB := hide (show Below w.heap.size w u3 from (unhide HB).grown hg (unhide HB).size (fun j e => by cases e; have := unhide hm1; have := unhide hbs; omega))
  clear hg FI hfin F3 E3 T NM hneb hm1 hm2 hm1s hbs hb1
  have c0 := row1 (row_next (al1_below u3 (.cells #[] 3)) (unhide R))
  go_upto_region 5 with fail
  clear c0
  obtain ⟨q, hq⟩ : ∃ q : Nat → Bool, Hid (q = fun k => G (X k).id) := ⟨_, rfl⟩
  have hqk : Hid (∀ k, q k = G (X k).id) := fun k => by rw [unhide hq]
  rw [← unhide hq] at hL
  clear hq
  go_loopw [6, 20] (fun v i u => ∃ (k : Nat) (p : Option Addr) (cap : Nat), k ≤ n ∧ i = .int .i64 (k : Int) ∧ v = .slice p (pickIds X q k).length cap ∧ Hid (u.ownsRow u3.heap.size 3 1 (.slice p (pickIds X q k).length cap) (pickIds X q k).length ((pickIds X q k).map Zv)) ∧ Hid (Below u3.heap.size u3 u)) (fun _ i _ => n - (intOf i).toNat)
  case atStart => exact ⟨0, some ⟨u3.heap.size, 0, none⟩, 0, Nat.zero_le _, rfl, rfl, World.ownsRow_lit u3 #[] 0 (Nat.le_refl _) (by decide) rfl, al1_below _ _⟩
  case round =>
    obtain ⟨k, p, cap, hk, rfl, rfl, O, D⟩ := hrel
    have hlen := pick_le X q k
    by_cases hkn : k < n
    · have hki : (k : Int) < (n : Int) := by omega
      have HP := hide ((unhide P k hkn).next (below_two (unhide HB) (unhide D)))
      have hqy := hide (fun (hx : G (X k).id = true) => show pickIds X q (k + 1) = pickIds X q k ++ [(X k).id] by rw [pickIds, if_pos (by rw [unhide hqk]; exact hx)])
      have hqn := hide (fun (hx : G (X k).id = false) => show pickIds X q (k + 1) = pickIds X q k by rw [pickIds, if_neg (by rw [unhide hqk, hx]; exact Bool.false_ne_true)])
      have hl0 := hide (fun (u : World) (h : NMap u m1 n (goneF G (stP ao X n))) => h.look (X k).id (unhide hw1 k hkn))
      have hfk := unhide hfst k hkn
      obtain ⟨xx, hxx⟩ : ∃ z, Hid (X k = z) := ⟨_, rfl⟩
      obtain ⟨ss, hss⟩ : ∃ z, Hid (A k = z) := ⟨_, rfl⟩
      rw [unhide hxx, unhide hss] at HP
      rw [unhide hxx] at hqy hqn hl0 hfk
      obtain ⟨b, o, hao, hrg⟩ := (unhide HP).range
      replace hrg := hide hrg
      subst hao
      have hst : Hid (stP (some ⟨b, o, none⟩) X n xx.id = .pointer (some ⟨b, o + k * 31, none⟩)) := stP_at hfk
      clear hfk
      go_upto_region 7 with (first | refine load_node rfl _ rfl b (o + k * 31) rfl xx ss (unhide hrg) ?_ | refine store_new rfl _ _ rfl _ xx ss rfl rfl rfl ?_)
      have R4 := hide (new_row wr (.cells (ndC xx ss) 47))
      have hl := unhide hl0 (wr.alloc (.cells (ndC xx ss) 47)) ((unhide NG).next (below_two (unhide D) (al1_below wr (.cells (ndC xx ss) 47))))
      replace O := hide ((unhide O).alloc (.cells (ndC xx ss) 47))
      replace D := hide (below_two (unhide D) (al1_below wr (.cells (ndC xx ss) 47)))
      clear hrg HP hl0
      generalize hW4 : wr.alloc (.cells (ndC xx ss) 47) = W4 at O D R4 hl ⊢
      clear hW4
      generalize wr.heap.size = b4 at R4 ⊢
      obtain ⟨c0, c1, _⟩ := headsC (unhide R4)
      cases hx : G xx.id with
      | true =>
        have e : goneF G (stP (some ⟨b, o, none⟩) X n) xx.id = .pointer none := by unfold goneF; rw [if_pos hx]
        rw [e] at hl
        have hqt := hide (unhide hqy hx)
        clear e hx
        generalize pickIds X q k = L at O hlen hqt ⊢
        go_wp2_with (at_builtin; go_must (refine wpList_append_vals W4 rfl _ _ 36 3 rfl u3.heap.size i0 (.int .i64 0) 8 Tryz.underlying36 hi hz0 hz1 hz2 rfl _ (L.map Zv) (by rfl) (own_ids (unhide O)) _ (by intro u hu; simp at hu; subst hu; rfl) 1 1 rfl (by rfl) (by unfold maxLen; simp; omega) (by simp; omega) u3 u3.heap.size (Nat.le_refl _) (unhide D).size (unhide D) ?_); intro v' w1 hown' hnx'; replace hown' := ids_snoc hown'; obtain ⟨p', cap', rfl⟩ := own_form hown'; replace hown' := hide hown'; replace hnx' := hide hnx'; refine Hid.out ?_)
        unfold Hid
        go_wp2_with fail
        go_roundw
        case rel => exact ⟨k + 1, p', cap', by omega, by go_num, by rw [unhide hqt, List.length_append]; rfl, by rw [unhide hqt]; exact unhide hown', hnx'⟩
        case measure => simp [intOf]; omega
      | false =>
        have e : goneF G (stP (some ⟨b, o, none⟩) X n) xx.id = .pointer (some ⟨b, o + k * 31, none⟩) := by unfold goneF; rw [if_neg (by rw [hx]; exact Bool.false_ne_true)]; exact unhide hst
        rw [e] at hl
        have hqt := hide (unhide hqn hx)
        clear e hx
        go_wp2_with fail
        go_roundw
        case rel => exact ⟨k + 1, p, cap, by omega, by go_num, by rw [unhide hqt], by rw [unhide hqt]; exact unhide O, D⟩
        case measure => simp [intOf]; omega
    · have hke : k = n := by omega
      subst hke
      have hki : ¬ (k : Int) < (k : Int) := by omega
      go_wp2_with fail
      go_ret
      rw [← unhide hL]
      exact ⟨p, cap, rfl, own_low (unhide O) (unhide HB).size, below_two (unhide HB) (unhide D)⟩

end Go.Proofs.YtdbphpekhmlmdaaGreatDoor

/-
  The program's DropNode. (By changek.py.)
-/
namespace Go.Proofs.YtdbphpekhmlmdaaGreatDoor
open Go.RowKit
set_option linter.unusedVariables false

theorem under_le2 (X : Nat → Nd) (n : Nat) (id : Int) : (underL X n id).length ≤ n := by
  unfold underL
  split
  · simp
  · exact pick_le X _ n

theorem ids_own {w w' : World} {r : Ending} {L : List Int} (h : IdsRes w r w' L) : ∃ p cp, r = .returned (.slice p L.length cp) ∧ OwnI w' w.heap.size (.slice p L.length cp) L.length (fun i => L.getD i 0) ∧ Below w.heap.size w w' := by
  obtain ⟨p, cp, rfl, h1, h2⟩ := h
  refine ⟨p, cp, rfl, ⟨_, h1, fun j hj => ?_⟩, h2⟩
  simp [Zv, List.getElem?_eq_getElem hj, List.getD]
theorem has_mem {L : List Int} {z : Int} : hasB (fun i => L.getD i 0) L.length z = true ↔ z ∈ L := by
  rw [has_iff]
  constructor
  · rintro ⟨i, hi, e⟩
    rw [← e]
    simp [List.getD, List.getElem?_eq_getElem hi]
  · intro h
    obtain ⟨i, hi, e⟩ := List.mem_iff_getElem.1 h
    exact ⟨i, hi, by simp [List.getD, List.getElem?_eq_getElem hi, e]⟩
end Go.Proofs.YtdbphpekhmlmdaaGreatDoor

/-
  A created scene is right.
-/
namespace Go.Proofs.YtdbphpekhmlmdaaGreatDoor
open Go.RowKit
set_option linter.unusedVariables false

end Go.Proofs.YtdbphpekhmlmdaaGreatDoor

/-
  Nodes that are placed: what both sides reckon.
-/
namespace Go.Proofs.YtdbphpekhmlmdaaGreatDoor
open Go.RowKit
set_option linter.unusedVariables false

/-- Is a node of another Id under, its parent is. -/
theorem under_step {X : Nat → Nd} {n : Nat} {id : Int} (hS : ScOk X n) {i : Nat} (hi : i < n) (hne : (X i).id ≠ id) : underB X n (X i).id id = (if (X i).par = 0 then false else underB X n (X i).par id) ∨ id = 0 := by
  by_cases h0 : id = 0
  · exact .inr h0
  refine .inl ?_
  have h9 : underB X n (X i).id id = if (X i).id = id then true else if firstN X (X i).id n < 0 then false else underN X n id 8 (X (firstN X (X i).id n).toNat).par := rfl
  rw [h9, if_neg hne, first_only hS.uniq hi, if_neg (by omega), Int.toNat_natCast]
  have key : ∀ (f : Nat) (t : Nat), t < n → depthI X n (X t).id < (f : Int) → underN X n id (f + 1) (X t).id = underN X n id f (X t).id := by
    intro f
    induction f with
    | zero => intro t ht h1; have := hS.deep t ht; omega
    | succ f ih =>
      intro t ht h1
      have e1 : ∀ g : Nat, underN X n id (g + 1) (X t).id = if (X t).id = id then true else underN X n id g (X t).par := fun g => by
        show (if (X t).id = id then true else if firstN X (X t).id n < 0 then false else underN X n id g (X (firstN X (X t).id n).toNat).par) = _
        rw [first_only hS.uniq ht, if_neg (show ¬ ((t : Int) < 0) by omega), Int.toNat_natCast]
      rw [e1, e1]
      by_cases e : (X t).id = id
      · rw [if_pos e, if_pos e]
      · rw [if_neg e, if_neg e]
        rcases par_in hS ht with hp | ⟨k, hk, e2, _⟩
        · rw [hp]
          have hz := scOk_noZ hS
          have z1 : ∀ g : Nat, underN X n id (g + 1) 0 = false := fun g => by
            show (if (0 : Int) = id then true else if firstN X 0 n < 0 then false else _) = false
            rw [if_neg (fun e => h0 e.symm), if_pos hz]
          cases f with
          | zero => have := hS.deep t ht; omega
          | succ f => rw [z1, z1]
        · rw [← e2]
          refine ih k hk ?_
          have := depth_step hS ht
          rw [← e2] at this
          omega
  rcases par_in hS hi with hp | ⟨k, hk, e2, _⟩
  · rw [hp, if_pos rfl]
    have hz := scOk_noZ hS
    show (if (0 : Int) = id then true else if firstN X 0 n < 0 then false else _) = false
    rw [if_neg (fun e => h0 e.symm), if_pos hz]
  · have hkid := (node_ids (okAt_iff.1 (hS.2 k hk)).1).1
    rw [if_neg (by rw [← e2]; omega), ← e2]
    exact (key 8 k hk (by have := hS.deep k hk; omega)).symm
/-- How deep the nodes are when one is placed below another. -/
noncomputable def rankP (X : Nat → Nd) (n : Nat) (id par : Int) (y : Int) : Int := if underB X n y id = true then depthI X n y + (depthI X n par + 1 - depthI X n id) else depthI X n y
theorem under_me (X : Nat → Nd) (n : Nat) (id : Int) : underB X n id id = true := by
  show (if id = id then true else _) = true
  rw [if_pos rfl]
theorem place_ranked {X : Nat → Nd} {n k : Nat} {par : Int} (hS : ScOk X n) (hk : k < n) (hold : holdB X n par = true) (hring : ¬ (par ≠ 0 ∧ underB X n par (X k).id = true)) :
    Ranked (upd X k ((X k).withPar par)) n (rankP X n (X k).id par) := by
  have r := hS.ranked
  have hkid := (node_ids (r.ok k hk)).1
  have idE : ∀ i, (upd X k ((X k).withPar par) i).id = (X i).id := fun i => by
    by_cases e : i = k
    · subst e; rw [upd_at]; rfl
    · rw [upd_ne _ _ e]
  have grE : ∀ i, (upd X k ((X k).withPar par) i).gr = (X i).gr := fun i => by
    by_cases e : i = k
    · subst e; rw [upd_at]; rfl
    · rw [upd_ne _ _ e]
  have hpar : par = 0 ∨ ∃ j, j < n ∧ (X j).id = par ∧ (X j).gr = true := by
    unfold holdB at hold
    by_cases h0 : par = 0
    · exact .inl h0
    · rw [decide_eq_false h0, Bool.false_or, Bool.and_eq_true, decide_eq_true_iff] at hold
      obtain ⟨j, hj, e1, e2⟩ := first_lt (X := X) (id := par) (n := n) (by omega)
      rw [e1, Int.toNat_natCast] at hold
      exact .inr ⟨j, hj, e2, hold.2⟩
  refine ⟨r.few, fun i hi => ?_, fun i j hi hj e => r.uniq i j hi hj (by rw [idE, idE] at e; exact e), fun i hi => ?_⟩
  · by_cases e : i = k
    · subst e
      rw [upd_at]
      have hok := r.ok i hi
      have hp : (0 ≤ par ∧ par ≤ 99) ∧ (X i).id ≠ par := by
        rcases hpar with h | ⟨j, hj, e, _⟩
        · exact ⟨by omega, by omega⟩
        · have := (node_ids (r.ok j hj)).1
          refine ⟨by omega, fun e2 => hring ⟨by omega, ?_⟩⟩
          rw [← e2]
          exact under_me X n _
      unfold nodeOkB at hok ⊢
      simp only [Bool.and_eq_true, inB_true, Bool.not_eq_true', decide_eq_false_iff_not] at hok ⊢
      exact ⟨hok.1, hp.1, hp.2, hok.2.2.2⟩
    · rw [upd_ne _ _ e]; exact r.ok i hi
  · rw [idE]
    by_cases e : i = k
    · subst e
      have d0 : rankP X n (X i).id par (X i).id = depthI X n par + 1 := by unfold rankP; rw [if_pos (under_me X n _)]; omega
      rw [upd_at, d0]
      show (par = 0 ∧ _) ∨ _
      rcases hpar with h | ⟨j, hj, e1, e2⟩
      · exact .inl ⟨h, by rw [h, depth_zero]; rfl⟩
      · refine .inr ⟨j, hj, by rw [idE]; exact e1, by rw [grE]; exact e2, ?_⟩
        show depthI X n par + 1 = rankP X n (X i).id par par + 1
        unfold rankP
        rw [if_neg (fun h => hring ⟨by have := (node_ids (r.ok j hj)).1; omega, h⟩)]
    · rw [upd_ne _ _ e]
      have hne : (X i).id ≠ (X k).id := fun h => e (r.uniq i k hi hk h)
      have us := (under_step hS hi hne).resolve_right (by omega)
      rcases r.step i hi with ⟨h0, h1⟩ | ⟨j, hj, e1, e2, e3⟩
      · refine .inl ⟨h0, ?_⟩
        unfold rankP
        rw [us, if_pos h0, if_neg (by decide)]
        exact h1
      · refine .inr ⟨j, hj, by rw [idE]; exact e1, by rw [grE]; exact e2, ?_⟩
        have hp0 : (X i).par ≠ 0 := by have := (node_ids (r.ok j hj)).1; omega
        unfold rankP
        rw [us, if_neg hp0, e3]
        split <;> omega
theorem rank_same {X : Nat → Nd} {n : Nat} {d : Int → Int} (h : Ranked X n d) (hS : ScOk X n) : ∀ (m : Nat) (i : Nat), i < n → depthI X n (X i).id ≤ (m : Int) → d (X i).id = depthI X n (X i).id := by
  intro m
  induction m with
  | zero => intro i hi h1; have := hS.deep i hi; omega
  | succ m ih =>
    intro i hi h1
    have r := hS.ranked
    rcases h.step i hi with ⟨e, e1⟩ | ⟨k, hk, e, _, e1⟩
    · rw [e1]
      have := depth_step hS hi
      rw [e, depth_zero] at this
      omega
    · have e2 := depth_step hS hi
      rw [← e] at e1 e2
      rw [e1, e2, ih k hk (by omega)]
/-- The placed scene is right just when no node under it is too deep. -/
theorem place_right {X : Nat → Nd} {n k : Nat} {par : Int} (hS : ScOk X n) (hk : k < n) (hold : holdB X n par = true) (hring : ¬ (par ≠ 0 ∧ underB X n par (X k).id = true)) :
    ScOk (upd X k ((X k).withPar par)) n ↔ ∀ i, i < n → underB X n (X i).id (X k).id = true → 1 ≤ depthI X n (X i).id + (depthI X n par + 1 - depthI X n (X k).id) ∧ depthI X n (X i).id + (depthI X n par + 1 - depthI X n (X k).id) ≤ 4 := by
  have hr := place_ranked hS hk hold hring
  have idE : ∀ i, (upd X k ((X k).withPar par) i).id = (X i).id := fun i => by
    by_cases e : i = k
    · subst e; rw [upd_at]; rfl
    · rw [upd_ne _ _ e]
  constructor
  · intro h i hi hu
    have e := rank_same hr h 4 i hi (by exact (h.deep i hi).2)
    have hd := h.deep i hi
    rw [← e, idE] at hd
    unfold rankP at hd
    rw [if_pos hu] at hd
    exact hd
  · intro h
    refine hr.right (fun i hi => ?_)
    rw [idE]
    unfold rankP
    split
    · next hu => exact h i hi hu
    · exact hS.deep i hi
/-- The order of the nodes when node k stands behind another one. -/
def ordS (X : Nat → Nd) (k : Nat) (beh : Int) : Nat → List Nat
  | 0 => if beh = 0 then [k] else []
  | i + 1 => ordS X k beh i ++ ((if i = k then [] else [i]) ++ (if (X i).id = beh ∧ beh ≠ 0 then [k] else []))
theorem ord_zero (X : Nat → Nd) (k n : Nat) : ordS X k 0 n = k :: keepI (fun i => i == k) n := by
  induction n with
  | zero => rfl
  | succ n ih =>
    unfold ordS keepI
    rw [ih]
    by_cases e : n = k
    · subst e; simp
    · simp [e]
theorem ord_before (X : Nat → Nd) (k : Nat) (beh : Int) (hb : beh ≠ 0) : ∀ n, (∀ i, i < n → (X i).id ≠ beh) → ordS X k beh n = keepI (fun i => i == k) n
  | 0, _ => by unfold ordS keepI; rw [if_neg hb]
  | n + 1, h => by
    unfold ordS keepI
    rw [ord_before X k beh hb n (fun i hi => h i (by omega)), if_neg (c := (X n).id = beh ∧ beh ≠ 0) (fun e => h n (by omega) e.1)]
    by_cases e : n = k
    · subst e; simp
    · simp [e]
/-- Behind place j the node itself comes. -/
theorem ord_behind (X : Nat → Nd) (k j : Nat) (beh : Int) (hb : beh ≠ 0) (hj : (X j).id = beh) (hjk : j ≠ k) : ∀ m, (∀ i, i < j + 1 + m → i ≠ j → (X i).id ≠ beh) → ∃ R, ordS X k beh (j + 1 + m) = keepI (fun i => i == k) (j + 1) ++ (k :: R) ∧ keepI (fun i => i == k) (j + 1 + m) = keepI (fun i => i == k) (j + 1) ++ R
  | 0, h => by
    refine ⟨[], ?_, by simp⟩
    show ordS X k beh (j + 1) = _
    have e0 := ord_before X k beh hb j (fun i hi => h i (by omega) (by omega))
    have e1 : ordS X k beh (j + 1) = ordS X k beh j ++ ((if j = k then [] else [j]) ++ (if (X j).id = beh ∧ beh ≠ 0 then [k] else [])) := rfl
    rw [e1, e0, if_neg hjk, if_pos ⟨hj, hb⟩, keep_no (q := fun i => i == k) (k := j) (by simp [hjk])]
    simp
  | m + 1, h => by
    obtain ⟨R, e1, e2⟩ := ord_behind X k j beh hb hj hjk m (fun i hi => h i (by omega))
    have s1 : ordS X k beh (j + 1 + m + 1) = ordS X k beh (j + 1 + m) ++ ((if j + 1 + m = k then [] else [j + 1 + m]) ++ (if (X (j + 1 + m)).id = beh ∧ beh ≠ 0 then [k] else [])) := rfl
    refine ⟨R ++ (if j + 1 + m = k then [] else [j + 1 + m]), ?_, ?_⟩
    · show ordS X k beh (j + 1 + m + 1) = _
      rw [s1, e1, if_neg (c := (X (j + 1 + m)).id = beh ∧ beh ≠ 0) (fun e => h (j + 1 + m) (by omega) (by omega) e.1)]
      simp
    · show keepI (fun i => i == k) (j + 1 + m + 1) = _
      by_cases e : j + 1 + m = k
      · rw [keep_yes (by simp [e]), e2, if_pos e]; simp
      · rw [keep_no (by simp [e]), e2, if_neg e]; simp
end Go.Proofs.YtdbphpekhmlmdaaGreatDoor

/-
  A node that is placed: what both sides reckon.
-/
namespace Go.Proofs.YtdbphpekhmlmdaaGreatDoor
open Go.RowKit
set_option linter.unusedVariables false

noncomputable def placeZ (X : Nat → Nd) (n : Nat) (id par : Int) : Nat → Nd := upd X (firstN X id n).toNat ((X (firstN X id n).toNat).withPar par)
noncomputable def placeL (X : Nat → Nd) (n : Nat) (id beh : Int) : List Nat := ordS X (firstN X id n).toNat beh n
noncomputable def placeY (X : Nat → Nd) (n : Nat) (id par beh : Int) : Nat → Nd := pickF (placeZ X n id par) (placeL X n id beh)
noncomputable def placeC (X : Nat → Nd) (n : Nat) (id par beh : Int) : Int :=
  if ¬ sceneOkB X n = true then 1 else if firstN X id n < 0 ∨ holdB X n par = false ∨ (beh ≠ 0 ∧ firstN X beh n < 0) ∨ beh = id then 2 else if par ≠ 0 ∧ underB X n par id = true then 6 else if ¬ sceneOkB (placeY X n id par beh) n = true then 5 else 0
noncomputable def placeX (X : Nat → Nd) (n : Nat) (id par beh : Int) : Nat → Nd := if placeC X n id par beh = 0 then placeY X n id par beh else X
theorem place_no {X : Nat → Nd} {n : Nat} {id par beh : Int} {c : Int} (h : placeC X n id par beh = c) (hc : c ≠ 0) : placeC X n id par beh = c ∧ placeX X n id par beh = X := ⟨h, if_neg (by rw [h]; exact hc)⟩
theorem place_yes {X : Nat → Nd} {n : Nat} {id par beh : Int} (h : placeC X n id par beh = 0) : placeX X n id par beh = placeY X n id par beh := if_pos h

abbrev kp (k n : Nat) : List Nat := keepI (fun i => i == k) n
theorem kp_mem {k n i : Nat} : i ∈ kp k n ↔ i < n ∧ i ≠ k :=
  ⟨fun h => ⟨(keep_lt _ n i h).1, by have := (keep_lt _ n i h).2; simpa using this⟩, fun h => keep_mem h.1 (by simpa using h.2)⟩
theorem kp_len {k : Nat} : ∀ {n : Nat}, (k < n → (kp k n).length + 1 = n) ∧ (n ≤ k → (kp k n).length = n)
  | 0 => ⟨fun h => absurd h (by omega), fun _ => rfl⟩
  | n + 1 => by
    have ih := kp_len (k := k) (n := n)
    by_cases e : n = k
    · subst e
      have h1 : kp n (n + 1) = kp n n := keep_yes (by simp)
      rw [h1]
      exact ⟨fun _ => by rw [ih.2 (Nat.le_refl _)], fun h => absurd h (by omega)⟩
    · have h1 : kp k (n + 1) = kp k n ++ [n] := keep_no (by simp [e])
      rw [h1, List.length_append, List.length_singleton]
      exact ⟨fun h => by rw [ih.1 (by omega)], fun h => by rw [ih.2 (by omega)]⟩
/-- The places of the kept, one after the other. -/
theorem kp_at {k : Nat} : ∀ {n i : Nat} (h : i < (kp k n).length), (kp k n)[i] = if i < k then i else i + 1
  | 0, i, h => absurd h (by simp [keepI])
  | n + 1, i, h => by
    by_cases e : n = k
    · subst e
      have h1 : kp n (n + 1) = kp n n := keep_yes (by simp)
      have h' : i < (kp n n).length := by rw [← h1]; exact h
      have h2 := kp_at h'
      simp only [h1]
      exact h2
    · have h1 : kp k (n + 1) = kp k n ++ [n] := keep_no (by simp [e])
      by_cases hi : i < (kp k n).length
      · have h2 := kp_at hi
        simp only [h1]
        rw [List.getElem_append_left hi]
        exact h2
      · have hl : i = (kp k n).length := by rw [h1, List.length_append, List.length_singleton] at h; omega
        simp only [h1]
        rw [List.getElem_append_right (by omega)]
        simp only [hl, Nat.sub_self, List.getElem_cons_zero]
        have ih := kp_len (k := k) (n := n)
        by_cases hk : k < n
        · have := ih.1 hk
          rw [if_neg (by omega)]; omega
        · have := ih.2 (by omega)
          rw [if_pos (by omega)]; omega
/-- Node k stands at place q among the others. -/
def insQ (k n q : Nat) : List Nat := (kp k n).take q ++ k :: (kp k n).drop q
theorem ins_len {k n q : Nat} (hk : k < n) : (insQ k n q).length = n := by
  have := (kp_len (k := k) (n := n)).1 hk
  unfold insQ
  rw [List.length_append, List.length_cons, List.length_take, List.length_drop]
  omega
theorem ins_mem {k n q i : Nat} (hk : k < n) : i ∈ insQ k n q ↔ i < n := by
  unfold insQ
  rw [List.mem_append, List.mem_cons]
  have h : i ∈ (kp k n).take q ∨ i ∈ (kp k n).drop q ↔ i ∈ kp k n := by
    rw [← List.mem_append, List.take_append_drop]
  constructor
  · rintro (h1 | h1 | h1)
    · exact (kp_mem.1 (h.1 (.inl h1))).1
    · omega
    · exact (kp_mem.1 (h.1 (.inr h1))).1
  · intro hi
    by_cases e : i = k
    · exact .inr (.inl e)
    · rcases h.2 (kp_mem.2 ⟨hi, e⟩) with h1 | h1
      · exact .inl h1
      · exact .inr (.inr h1)
theorem ins_nodup {k n q : Nat} : (insQ k n q).Nodup := by
  unfold insQ
  have h1 := keep_nodup (fun i => i == k) n
  have h2 : (kp k n).take q ++ (kp k n).drop q = kp k n := List.take_append_drop q _
  have h3 : ((kp k n).take q ++ (kp k n).drop q).Nodup := by rw [h2]; exact h1
  obtain ⟨a1, a2, a3⟩ := List.nodup_append.1 h3
  have hk : ∀ i, i ∈ kp k n → i ≠ k := fun i hi => (kp_mem.1 hi).2
  refine List.nodup_append.2 ⟨a1, List.nodup_cons.2 ⟨fun h => hk k (List.mem_of_mem_drop h) rfl, a2⟩, fun a ha b hb => ?_⟩
  rcases List.mem_cons.1 hb with e | hb
  · rw [e]; exact hk a (List.mem_of_mem_take ha)
  · exact a3 a ha b hb
/-- A scene in another order is right just when it is right. -/
theorem scOk_list {X : Nat → Nd} {n : Nat} {L : List Nat} (hl : L.length = n) (hd : L.Nodup) (hm : ∀ i, i ∈ L ↔ i < n) : ScOk (pickF X L) n ↔ ScOk X n := by
  have ix : ∀ i (hi : i < n), L[i]'(by rw [hl]; exact hi) < n := fun i hi => (hm _).1 (List.getElem_mem _)
  have t1 : ∀ j, j < n → L.idxOf j < n := fun j hj => by rw [← hl]; exact List.idxOf_lt_length_iff.2 ((hm j).2 hj)
  have t2 : ∀ j (hj : j < n), L[L.idxOf j]'(by rw [hl]; exact t1 j hj) = j := fun j hj => List.getElem_idxOf (by rw [hl]; exact t1 j hj)
  have t3 : ∀ i (hi : i < n), L.idxOf (L[i]'(by rw [hl]; exact hi)) = i := fun i hi => by
    have := t2 _ (ix i hi)
    exact (List.getElem_inj hd).1 this
  have g : ∀ i (hi : i < n), L.getD i 0 = L[i]'(by rw [hl]; exact hi) := fun i hi => by simp [List.getD, List.getElem?_eq_getElem (show i < L.length by rw [hl]; exact hi)]
  constructor
  · intro h
    refine scOk_perm h (fun j => L.idxOf j) (fun i => L.getD i 0) (fun j hj => ⟨t1 j hj, ?_, ?_⟩) (fun i hi => ⟨?_, ?_⟩)
    · show L.getD (L.idxOf j) 0 = j
      rw [g _ (t1 j hj)]; exact t2 j hj
    · show X j = X (L.getD (L.idxOf j) 0)
      rw [g _ (t1 j hj), t2 j hj]
    · show L.getD i 0 < n
      rw [g i hi]; exact ix i hi
    · show L.idxOf (L.getD i 0) = i
      rw [g i hi]; exact t3 i hi
  · intro h
    refine scOk_perm h (fun i => L.getD i 0) (fun j => L.idxOf j) (fun i hi => ⟨?_, ?_, rfl⟩) (fun j hj => ⟨t1 j hj, ?_⟩)
    · show L.getD i 0 < n
      rw [g i hi]; exact ix i hi
    · show L.idxOf (L.getD i 0) = i
      rw [g i hi]; exact t3 i hi
    · show L.getD (L.idxOf j) 0 = j
      rw [g _ (t1 j hj)]; exact t2 j hj
/-- Where the node goes: one behind the place of what it is told, among the others. -/
theorem ord_ins {X : Nat → Nd} {n k : Nat} {beh : Int} (hS : ScOk X n) (hk : k < n) (hb : beh = 0 ∨ ¬ firstN X beh n < 0) (hne : beh ≠ (X k).id) :
    ∃ q : Nat, q ≤ n - 1 ∧ firstN (pickF X (kp k n)) beh (n - 1) + 1 = (q : Int) ∧ ordS X k beh n = insQ k n q := by
  have hl := (kp_len (k := k) (n := n)).1 hk
  have hat : ∀ i (hi : i < (kp k n).length), pickF X (kp k n) i = X (kp k n)[i] := fun i hi => pickF_at X _ hi
  by_cases h0 : beh = 0
  · subst h0
    refine ⟨0, Nat.zero_le _, ?_, ?_⟩
    · rw [first_none]; rfl
      intro j hj e
      rw [hat j (by omega)] at e
      have := (node_ids (okAt_iff.1 (hS.2 _ (kp_mem.1 (List.getElem_mem (by omega : j < (kp k n).length))).1)).1).1
      omega
    · rw [ord_zero]; rfl
  · obtain ⟨j, hj, ej, e2⟩ := first_lt (hb.resolve_left h0)
    have hjk : j ≠ k := fun e => hne (by rw [← e2, e])
    have huniq : ∀ i, i < n → i ≠ j → (X i).id ≠ beh := fun i hi hij e => hij (hS.uniq i j hi hj (e.trans e2.symm))
    obtain ⟨R, e3, e4⟩ := ord_behind X k j beh h0 e2 hjk (n - (j + 1)) (fun i hi hij => huniq i (by omega) hij)
    rw [show j + 1 + (n - (j + 1)) = n by omega] at e3 e4
    replace e3 : ordS X k beh n = kp k (j + 1) ++ k :: R := e3
    replace e4 : kp k n = kp k (j + 1) ++ R := e4
    have lj : (kp k (j + 1)).length = if j < k then j + 1 else j := by
      have h := kp_len (k := k) (n := j + 1)
      split
      · exact h.2 (by omega)
      · have := h.1 (by omega); omega
    have hj1 : 0 < (kp k (j + 1)).length := by rw [lj]; split <;> omega
    have hle : (kp k (j + 1)).length ≤ (kp k n).length := by rw [e4, List.length_append]; omega
    refine ⟨(kp k (j + 1)).length, by omega, ?_, ?_⟩
    · have hq : (kp k (j + 1)).length - 1 < (kp k n).length := by omega
      have hv : (kp k n)[(kp k (j + 1)).length - 1] = j := by
        rw [kp_at hq, lj]
        by_cases c : j < k
        · rw [if_pos c, if_pos (by omega)]; omega
        · rw [if_neg c, if_neg (by omega)]; omega
      have hb1 : ∀ i, i < (kp k (j + 1)).length - 1 → (pickF X (kp k n) i).id ≠ beh := fun i hi e => by
        rw [hat i (by omega)] at e
        have hlt := (kp_mem.1 (List.getElem_mem (by omega : i < (kp k n).length))).1
        have hv' := hv
        rw [kp_at hq] at hv'
        have : (kp k n)[i] ≠ j := by
          rw [kp_at (by omega)]
          split at hv' <;> split <;> omega
        exact huniq _ hlt this e
      have hb2 : (pickF X (kp k n) ((kp k (j + 1)).length - 1)).id = beh := by rw [hat _ hq, hv]; exact e2
      rw [first_at hb1 hb2 (by omega)]
      omega
    · rw [e3]
      unfold insQ
      have h5 : (kp k n).take (kp k (j + 1)).length = kp k (j + 1) := by rw [e4]; exact List.take_left
      have h6 : (kp k n).drop (kp k (j + 1)).length = R := by rw [e4]; exact List.drop_left
      rw [h5, h6]
/-- What placing asks for, taken apart. -/
theorem place_parts {X : Nat → Nd} {n : Nat} {id par beh : Int} (h1 : sceneOkB X n = true) (h2 : ¬ (firstN X id n < 0 ∨ holdB X n par = false ∨ (beh ≠ 0 ∧ firstN X beh n < 0) ∨ beh = id)) :
    ScOk X n ∧ ∃ k q : Nat, k < n ∧ firstN X id n = (k : Int) ∧ (X k).id = id ∧ holdB X n par = true ∧ (beh = 0 ∨ ¬ firstN X beh n < 0) ∧ beh ≠ (X k).id ∧ placeZ X n id par = upd X k ((X k).withPar par) ∧
      q ≤ n - 1 ∧ firstN (pickF X (kp k n)) beh (n - 1) + 1 = (q : Int) ∧ placeL X n id beh = insQ k n q := by
  have hS := sceneOk_iff.1 h1
  have hf : ¬ firstN X id n < 0 := fun h => h2 (.inl h)
  have hh : holdB X n par = true := by
    cases h : holdB X n par with
    | true => rfl
    | false => exact absurd (.inr (.inl h)) h2
  have hb : beh = 0 ∨ ¬ firstN X beh n < 0 := by
    by_cases h0 : beh = 0
    · exact .inl h0
    · exact .inr (fun h => h2 (.inr (.inr (.inl ⟨h0, h⟩))))
  have hi : beh ≠ id := fun h => h2 (.inr (.inr (.inr h)))
  obtain ⟨k, hk, e1, e2⟩ := first_lt hf
  obtain ⟨q, q1, q2, q3⟩ := ord_ins hS hk hb (by rw [e2]; exact hi)
  refine ⟨hS, k, q, hk, e1, e2, hh, hb, by rw [e2]; exact hi, ?_, q1, q2, ?_⟩
  · unfold placeZ; rw [e1]; rfl
  · unfold placeL; rw [e1]; exact q3
/-- The placed scene is right just when the one with the new Parent is. -/
theorem place_same {X : Nat → Nd} {n k q : Nat} {Z : Nat → Nd} (hk : k < n) : ScOk (pickF Z (insQ k n q)) n ↔ ScOk Z n := scOk_list (ins_len hk) ins_nodup (fun i => ins_mem hk)
end Go.Proofs.YtdbphpekhmlmdaaGreatDoor

/-
  A node that is placed: where it stands, and all others in order.
-/
namespace Go.Proofs.YtdbphpekhmlmdaaGreatDoor
open Go.RowKit
set_option linter.unusedVariables false

theorem place_back {X : Nat → Nd} {n : Nat} {id par beh : Int} (h : placeC X n id par beh = 0) :
    ScOk X n ∧ ∃ k q : Nat, k < n ∧ q < n ∧ (X k).id = id ∧ placeX X n id par beh = pickF (upd X k ((X k).withPar par)) (insQ k n q) ∧ ScOk (pickF (upd X k ((X k).withPar par)) (insQ k n q)) n ∧ (beh = 0 → q = 0) ∧ (beh ≠ 0 → ∃ p : Nat, q = p + 1 ∧ (pickF (upd X k ((X k).withPar par)) (insQ k n q) p).id = beh) := by
  have h0 := h
  unfold placeC at h
  split at h
  · cases h
  rename_i h1
  split at h
  · cases h
  rename_i h2
  split at h
  · cases h
  split at h
  · cases h
  rename_i h4
  have h1' : sceneOkB X n = true := Classical.byContradiction h1
  have h4' : sceneOkB (placeY X n id par beh) n = true := Classical.byContradiction h4
  obtain ⟨hS, k, q, hk, e1, e2, e3, e4, e5, e6, e7, e8, e9⟩ := place_parts h1' h2
  have eY : placeY X n id par beh = pickF (upd X k ((X k).withPar par)) (insQ k n q) := by unfold placeY; rw [e6, e9]
  have hl := (kp_len (k := k) (n := n)).1 hk
  refine ⟨hS, k, q, hk, by omega, e2, by rw [place_yes h0, eY], by rw [← eY]; exact sceneOk_iff.1 h4', fun hb => ?_, fun hb => ?_⟩
  · subst hb
    rw [first_none (fun j hj e => ?_)] at e8
    · omega
    · rw [pickF_at X _ (by omega)] at e
      have := (node_ids (okAt_iff.1 (hS.2 _ (kp_mem.1 (List.getElem_mem (by omega : j < (kp k n).length))).1)).1).1
      omega
  · obtain ⟨j, hj, _, ej⟩ := first_lt (e4.resolve_left hb)
    have hjk : j ≠ k := fun e => e5 (by rw [← ej, e])
    have hin : j ∈ kp k n := kp_mem.2 ⟨hj, hjk⟩
    have hf : ¬ firstN (pickF X (kp k n)) beh (n - 1) < 0 := by
      obtain ⟨i, hi, e⟩ := List.mem_iff_getElem.1 hin
      exact first_mem.2 ⟨i, by omega, by rw [pickF_at X _ hi, e]; exact ej⟩
    obtain ⟨i, hi, f1, f2⟩ := first_lt hf
    refine ⟨i, by omega, ?_⟩
    have hq : q = i + 1 := by omega
    subst hq
    have hlen : i < (insQ k n (i + 1)).length := by rw [ins_len hk]; omega
    have hti : i < ((kp k n).take (i + 1)).length := by rw [List.length_take]; omega
    have hL : (insQ k n (i + 1))[i] = (kp k n)[i]'(by omega) := by
      show ((kp k n).take (i + 1) ++ k :: (kp k n).drop (i + 1))[i]'_ = _
      exact (List.getElem_append_left hti).trans List.getElem_take
    rw [pickF_at _ _ hlen, hL]
    rw [pickF_at X _ (by omega)] at f2
    by_cases e : (kp k n)[i]'(by omega) = k
    · exact absurd e (kp_mem.1 (List.getElem_mem _)).2
    · rw [upd_ne _ _ e]; exact f2
/-- Which of the old nodes stands at place i. -/
def oldAt (k q i : Nat) : Nat := if i = q then k else if (if i < q then i else i - 1) < k then (if i < q then i else i - 1) else (if i < q then i else i - 1) + 1
theorem ins_at {Y : Nat → Nd} {k n q i : Nat} (hk : k < n) (hq : q < n) (hi : i < n) : pickF Y (insQ k n q) i = Y (oldAt k q i) := by
  have hl := (kp_len (k := k) (n := n)).1 hk
  have hlen : i < (insQ k n q).length := by rw [ins_len hk]; exact hi
  rw [pickF_at _ _ hlen]
  congr 1
  have hq' : ((kp k n).take q).length = q := by rw [List.length_take]; omega
  have hlen' : i < ((kp k n).take q ++ k :: (kp k n).drop q).length := hlen
  show ((kp k n).take q ++ k :: (kp k n).drop q)[i]'hlen' = _
  clear hlen
  unfold oldAt
  by_cases h1 : i < q
  · rw [List.getElem_append_left (by omega), List.getElem_take, kp_at (by omega)]
    simp only [if_pos h1, if_neg (show ¬ i = q by omega)]
  · by_cases h2 : i = q
    · subst h2
      rw [List.getElem_append_right (by omega)]
      simp [hq']
    · rw [List.getElem_append_right (by omega)]
      simp only [hq', if_neg h1, if_neg h2]
      obtain ⟨d, hd⟩ : ∃ d, i - q = d + 1 := ⟨i - q - 1, by omega⟩
      simp only [hd, List.getElem_cons_succ, List.getElem_drop]
      rw [kp_at (by omega)]
      have : q + d = i - 1 := by omega
      rw [this]
/-- Where the law's second place stands when it comes to place i. -/
def atV (k q i : Nat) : Nat := if (if i ≤ q then i else i - 1) ≤ k then (if i ≤ q then i else i - 1) else (if i ≤ q then i else i - 1) + 1
theorem at_zero (k q : Nat) : atV k q 0 = 0 := by unfold atV; simp
theorem at_skip (k q : Nat) : atV k q (q + 1) = atV k q q := by
  unfold atV
  simp only [if_neg (show ¬ q + 1 ≤ q by omega), if_pos (Nat.le_refl q), Nat.add_sub_cancel]
theorem at_next {k q i : Nat} (h : i ≠ q) : atV k q (i + 1) = oldAt k q i + 1 ∧ (atV k q i = k → oldAt k q i = atV k q i + 1) ∧ (atV k q i ≠ k → oldAt k q i = atV k q i) := by
  unfold atV oldAt
  rw [if_neg h]
  by_cases h1 : i < q
  · simp only [if_pos h1, if_pos (show i + 1 ≤ q by omega), if_pos (show i ≤ q by omega)]
    refine ⟨?_, ?_, ?_⟩ <;> (repeat' split) <;> omega
  · simp only [if_neg h1, if_neg (show ¬ i + 1 ≤ q by omega), if_neg (show ¬ i ≤ q by omega)]
    refine ⟨?_, ?_, ?_⟩ <;> (repeat' split) <;> omega
theorem old_lt {k n q i : Nat} (hk : k < n) (hi : i < n) (hq : q < n) : oldAt k q i < n := by
  unfold oldAt; (repeat' split) <;> omega
theorem old_ne {k q i : Nat} (h : i ≠ q) : oldAt k q i ≠ k := by
  unfold oldAt; rw [if_neg h]; (repeat' split) <;> omega
theorem old_at (k q : Nat) : oldAt k q q = k := by unfold oldAt; simp
end Go.Proofs.YtdbphpekhmlmdaaGreatDoor
