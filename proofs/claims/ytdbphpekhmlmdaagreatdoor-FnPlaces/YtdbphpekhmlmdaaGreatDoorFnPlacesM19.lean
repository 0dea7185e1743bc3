/-
  PlaceT: texts of one claim, in one.
-/
import Derived.Test.YtdbphpekhmlmdaaGreatDoorFnPlacesM6
import Derived.Test.YtdbphpekhmlmdaaGreatDoorFnPlacesM18
import Derived.Test.YtdbphpekhmlmdaaGreatDoorFnPlacesM16
import Derived.Test.YtdbphpekhmlmdaaGreatDoorFnPlacesM15
import Derived.Deep.RegionHeld3
import Derived.Deep.DeepCutAuto
import Derived.Deep.DeepFit

/-
  The specification's PlaceNode. (By placespec.py.)
-/
namespace Go.Proofs.YtdbphpekhmlmdaaGreatDoor
open Go.RowKit
set_option linter.unusedVariables false

/-- One node more at the end, whose lists lie below all others. -/
theorem SG.snocLow {u u' : World} {base Bx T n c c' : Nat} {p p' : Option Addr} {X : Nat → Nd} {A : Nat → Na} {x : Nd} {s : Na} {ys : List Value} (h : SG u base T p n c X A) (hx : NdG u Bx x s) (hb : Bx ≤ base) (hd : ∀ l, l < 5 → ∀ k, (lvl x s l).ownBlock = some k → k < base)
    (hr : u.ownsRow base 47 31 (.slice p n c) n ys) (hy : NsAt ys X A n) (ho : u'.ownsRow base 47 31 (.slice p' (n + 1) c') (n + 1) (ys ++ (ndC x s).toList)) (hg : u.grownBy u' (Value.slice p n c).ownBlock) : SG u' Bx u'.heap.size p' (n + 1) c' (upd X n x) (upd A n s) := by
  have own : ∀ j, j < n + 1 → ∀ l, l < 5 → OwnL u' Bx (upd X n x j) (upd A n s j) l := fun j hj l hl => by
    by_cases e : j = n
    · subst e; rw [upd_at, upd_at]; exact (hx.own l hl).kept hg ((hx.own l hl).off hr)
    · rw [upd_ne _ _ e, upd_ne _ _ e]; exact ((h.own j (by omega) l hl).kept hg ((h.own j (by omega) l hl).off hr)).low hb
  refine ⟨⟨_, own_low ho hb, hy.snoc hr.1 x s⟩, own, fun i j hi hj l m hl hm k e1 e2 => ?_, fun j hj l hl k e => ⟨((own j hj l hl).lt k e).2, (own j hj l hl).row ho k e⟩, fun k e => (ho.lt k e).2⟩
  by_cases ei : i = n <;> by_cases ej : j = n
  · subst ei; subst ej
    simp only [upd_at] at e1 e2
    exact ⟨rfl, hx.inj l m hl hm k e1 e2⟩
  · subst ei
    simp only [upd_at, upd_ne _ _ ej] at e1 e2
    have := hd l hl k e1
    have := ((h.own j (by omega) m hm).lt k e2).1
    omega
  · subst ej
    simp only [upd_at, upd_ne _ _ ei] at e1 e2
    have := hd m hm k e2
    have := ((h.own i (by omega) l hl).lt k e1).1
    omega
  · simp only [upd_ne _ _ ei, upd_ne _ _ ej] at e1 e2
    exact h.apt.inj i j (by omega) (by omega) l m hl hm k e1 e2
theorem wpList_append_low {ops : Array Oper} {rest : List Oper} {oo : Oper} {a : Act} {Q : Exit → Act → World → Prop} {V : World} {base Bx T n c : Nat} {p : Option Addr} {X : Nat → Nd} {A : Nat → Na} {x : Nd} {sx : Na} (hg : oo.guard = none) (s y : Operand)
    (hop : oo.op = .call { callee := .builtin .append, args := #[s, y], argTypes := #[24, 24] })
    (h : SG V base T p n c X A) (hbase : base ≤ V.heap.size) (hx : NdG V Bx x sx) (hb : Bx ≤ base) (hd : ∀ l, l < 5 → ∀ k, (lvl x sx l).ownBlock = some k → k < base) (hn : n ≤ 1048576) (hs : a.eval s = .slice p n c) (hy : a.eval y = .slice (some ⟨V.heap.size, 0, none⟩) 1 1)
    (hK : ∀ p' c' w', SG w' Bx w'.heap.size p' (n + 1) c' (upd X n x) (upd A n sx) → (V.alloc (.cells (ndC x sx) 47)).grownBy w' (Value.slice p n c).ownBlock → wpList Tryz.prog ops Q rest (a.put oo.dst (.slice p' (n + 1) c')) w') : wpList Tryz.prog ops Q (oo :: rest) a (V.alloc (.cells (ndC x sx) 47)) := by
  obtain ⟨i, hi, hz, hsize, hby⟩ := info_parts infoNode
  have h2 := h.alloc (.cells (ndC x sx) 47)
  have hx2 := hx.next (al1_below V (.cells (ndC x sx) 47))
  obtain ⟨ys, hr, hys⟩ := h2.row
  refine wpList_step fun K hK' => ?_
  have hw : Region.wanted oo (yielded ops a.tmps) = true := by simp [Region.wanted, hg]
  rw [if_pos hw]
  refine wp_append_own (V.alloc (.cells (ndC x sx) 47)) s y 24 hop base 47 i (.agg ndZ) 31 328 Tryz.underlying24 hi hz hsize hby rfl (by decide) _ n ys hs hr ⟨V.heap.size, 0, none⟩ 1 1 (ndC x sx).toList hy (by rfl) (rowCells (new_row V _)) (ndOne x sx) (by unfold maxLen; omega) (by omega) (by rw [al1_size]; omega) ?_
  intro v' w' ho' hg' _
  obtain ⟨p', c', rfl⟩ := own_form ho'
  exact hK' _ _ (hK p' c' w' (h2.snocLow hx2 hb hd hr hys ho' hg') hg')
theorem at_append {ops : Array Oper} {rest : List Oper} {oo : Oper} {a : Act} {Q : Exit → Act → World → Prop} {w : World} (s y : Operand) (hop : oo.op = .call { callee := .builtin .append, args := #[s, y], argTypes := #[24, 24] }) (h : wpList Tryz.prog ops Q (oo :: rest) a w) : wpList Tryz.prog ops Q (oo :: rest) a w := h
theorem wpList_build_nd {ops : Array Oper} {rest : List Oper} {op : Oper} {ac : Act} {w : World} {Q : Exit → Act → World → Prop} (hgd : op.guard = none) (y : Operand) (hop : op.op = .buildSlice 24 1 #[(0, y)]) (x : Nd) (s : Na) (hy : ac.eval y = .agg (ndC x s))
    (h : wpList Tryz.prog ops Q rest (ac.put op.dst (.slice (some ⟨w.heap.size, 0, none⟩) 1 1)) (w.alloc (.cells (ndC x s) 47))) : wpList Tryz.prog ops Q (op :: rest) ac w :=
  wpList_step fun K hK => step_build_node hgd y hop x s hy (hK _ _ h)
/-- A scene behind whose blocks something is written. -/
theorem SG.keptHi {w u : World} {base T n c : Nat} {a : Option Addr} {row : Option Nat} {X : Nat → Nd} {A : Nat → Na} (h : SG w base T a n c X A) (hg : w.grownBy u row) (hr : ∀ k, row = some k → T ≤ k) : SG u base T a n c X A := by
  obtain ⟨ys, h1, h2⟩ := h.row
  refine ⟨⟨ys, h1.kept hg ?_, h2⟩, fun j hj l hl => (h.own j hj l hl).kept hg ?_, h.apt⟩
  · cases hk : (Value.slice a n c).ownBlock with
    | none => exact .inl rfl
    | some k => exact .inr (fun e => by have := h.apt.row k hk; have := hr k e.symm; omega)
  · cases hk : (lvl (X j) (A j) l).ownBlock with
    | none => exact .inl rfl
    | some k => exact .inr (fun e => by have := (h.apt.blk j hj l hl k hk).1; have := hr k e.symm; omega)
theorem kindT {u u' : World} {base n c b : Nat} {p : Option Addr} {ys : List Value} {cs : Array Value} (hr : u.ownsRow base 47 31 (.slice p n c) n ys) (hg : u.grownBy u' (Value.slice p n c).ownBlock) (hb : u.heap[b]? = some (.cells cs 26 (0, 0))) : u'.heap[b]? = some (.cells cs 26 (0, 0)) := (hg.block b (heap_lt hb) (fun e => own_ty hr hb (by decide) b e.symm rfl)).trans hb
theorem SG.kind {u u' : World} {base T n c b : Nat} {p : Option Addr} {X : Nat → Nd} {A : Nat → Na} {cs : Array Value} (h : SG u base T p n c X A) (hg : u.grownBy u' (Value.slice p n c).ownBlock) (hb : u.heap[b]? = some (.cells cs 26 (0, 0))) : u'.heap[b]? = some (.cells cs 26 (0, 0)) := by
  obtain ⟨ys, hr, _⟩ := h.row
  exact kindT hr hg hb
theorem SG.rowge {u : World} {base T n c : Nat} {p : Option Addr} {X : Nat → Nd} {A : Nat → Na} (h : SG u base T p n c X A) : ∀ k, (Value.slice p n c).ownBlock = some k → base ≤ k ∧ k < u.heap.size := by
  obtain ⟨ys, hr, _⟩ := h.row
  exact hr.lt
/-- The placed node while it is not yet in the list: its variable, its lists. -/
structure XN (u : World) (bs B1 Bx b13 : Nat) (pl : Prop) (x : Nd) (s : Na) : Prop where
  low : Bx ≤ bs
  top : bs ≤ u.heap.size
  yet : ¬ pl → bs = B1 ∧ u.heap[b13]? = some (.cells (ndC x s) 47 (0, 0)) ∧ NdG u Bx x s ∧ b13 < B1 ∧ ∀ l, l < 5 → ∀ k, (lvl x s l).ownBlock = some k → k < b13
theorem XN.next {u u' : World} {bs B1 Bx b13 : Nat} {pl : Prop} {x : Nd} {s : Na} (h : XN u bs B1 Bx b13 pl x s) (hb : Below u.heap.size u u') : XN u' bs B1 Bx b13 pl x s :=
  ⟨h.low, Nat.le_trans h.top hb.size, fun n => let ⟨h1, h2, h3, h4, h5⟩ := h.yet n; ⟨h1, row_next hb h2, h3.next hb, h4, h5⟩⟩
theorem XN.keptR {u u' : World} {bs B1 Bx b13 T n c : Nat} {pl : Prop} {x : Nd} {s : Na} {p : Option Addr} {X : Nat → Nd} {A : Nat → Na} (h : XN u bs B1 Bx b13 pl x s) (hg : u.grownBy u' (Value.slice p n c).ownBlock) (S : SG u bs T p n c X A) : XN u' bs B1 Bx b13 pl x s :=
  ⟨h.low, Nat.le_trans h.top hg.size, fun np => by
    obtain ⟨h1, h2, h3, h4, h5⟩ := h.yet np
    have hr := S.rowge
    obtain ⟨ys, hro, _⟩ := S.row
    exact ⟨h1, (hg.block b13 (heap_lt h2) (fun e => by have := (hr b13 e.symm).1; omega)).trans h2, ⟨fun l hl => (h3.own l hl).kept hg ((h3.own l hl).off hro), h3.inj⟩, h4, h5⟩⟩
theorem XN.setc {u : World} {bs B1 Bx b13 b j : Nat} {v : Value} {pl : Prop} {x : Nd} {s : Na} (h : XN u bs B1 Bx b13 pl x s) (hb : b13 < b) : XN (u.setCell ⟨b, j, none⟩ v) bs B1 Bx b13 pl x s :=
  ⟨h.low, by simpa [World.setCell] using h.top, fun np => by
    obtain ⟨h1, h2, h3, h4, h5⟩ := h.yet np
    exact ⟨h1, setc_other (by omega) h2, nd_setn h3 (fun l hl k e => by have := h5 l hl k e; omega), h4, h5⟩⟩
/-- The specification's PlaceNode under way. -/
structure PT (w u : World) (b1 b4 b6 b13 b14 B0 B1 Bx : Nat) (v1 : Value) (p : Option Addr) (n c : Nat) (X : Nat → Nd) (A' : Nat → Na) (Zf : Nat → Nd) (xp : Nd) (sx : Na) (L : List Nat) (pl : Prop) (bs : Nat) (po : Option Addr) (co : Nat) (Ao : Nat → Na) : Prop where
  r1 : u.heap[b1]? = some (.cells #[v1] 26 (0, 0))
  r4 : u.heap[b4]? = some (.cells #[.slice none 0 0] 26 (0, 0))
  r6 : u.heap[b6]? = some (.cells #[.slice p n c] 26 (0, 0))
  r14 : u.heap[b14]? = some (.cells #[.slice po L.length co] 26 (0, 0))
  hb : Below w.heap.size w u
  sk : SG u B0 b6 p n c X A'
  so : SG u bs u.heap.size po L.length co (pickF Zf L) Ao
  xo : XN u bs B1 Bx b13 pl xp sx
  lx : b6 < b14 ∧ b13 < b14 ∧ b14 < B1 ∧ b6 ≤ Bx ∧ Bx ≤ b13 ∧ b1 < b6 ∧ b4 < b6 ∧ w.heap.size ≤ b6
theorem PT.next {w u u' : World} {b1 b4 b6 b13 b14 B0 B1 Bx : Nat} {v1 : Value} {p : Option Addr} {n c : Nat} {X : Nat → Nd} {A' : Nat → Na} {Zf : Nat → Nd} {xp : Nd} {sx : Na} {L : List Nat} {pl : Prop} {bs : Nat} {po : Option Addr} {co : Nat} {Ao : Nat → Na} (h : PT w u b1 b4 b6 b13 b14 B0 B1 Bx v1 p n c X A' Zf xp sx L pl bs po co Ao) (hb : Below u.heap.size u u') : PT w u' b1 b4 b6 b13 b14 B0 B1 Bx v1 p n c X A' Zf xp sx L pl bs po co Ao :=
  ⟨row_next hb h.r1, row_next hb h.r4, row_next hb h.r6, row_next hb h.r14, below_two h.hb hb, h.sk.next hb, (h.so.next hb).high hb.size, h.xo.next hb, h.lx⟩
/-- One more is appended, and the list is stored. -/
theorem PT.added {w V W : World} {b1 b4 b6 b13 b14 B0 B1 Bx : Nat} {v1 : Value} {p : Option Addr} {n c : Nat} {X : Nat → Nd} {A' : Nat → Na} {Zf : Nat → Nd} {xp : Nd} {sx : Na} {L : List Nat} {pl : Prop} {bs : Nat} {po : Option Addr} {co : Nat} {Ao : Nat → Na} (h : PT w V b1 b4 b6 b13 b14 B0 B1 Bx v1 p n c X A' Zf xp sx L pl bs po co Ao)
    {p' : Option Addr} {c' bs' i : Nat} {s : Na} {pl' : Prop} (hg : V.grownBy W (Value.slice po L.length co).ownBlock) (S : SG W bs' W.heap.size p' (L.length + 1) c' (upd (pickF Zf L) L.length (Zf i)) (upd Ao L.length s)) (hX : XN W bs' B1 Bx b13 pl' xp sx) : PT w (W.setCell ⟨b14, 0, none⟩ (.slice p' (L.length + 1) c')) b1 b4 b6 b13 b14 B0 B1 Bx v1 p n c X A' Zf xp sx (L ++ [i]) pl' bs' p' c' (upd Ao L.length s) := by
  have hl := h.lx
  have hge := h.so.rowge
  have hlow := h.xo.low
  have k14 := h.so.kind hg h.r14
  have hlen : (L ++ [i]).length = L.length + 1 := by rw [List.length_append, List.length_singleton]
  refine ⟨setc_other (by omega) (h.so.kind hg h.r1), setc_other (by omega) (h.so.kind hg h.r4), setc_other (by omega) (h.so.kind hg h.r6), ?_, (h.hb.grown hg h.hb.size (fun k e => by have := (hge k e).1; omega)).setCell (p := ⟨b14, 0, none⟩) (by dsimp only; omega) _, (h.sk.keptHi hg (fun k e => by have := (hge k e).1; omega)).setk k14, ?_, hX.setc (by omega), hl⟩
  · have := setC (v := .slice p' (L.length + 1) c') (j := 0) k14
    rw [hlen]
    simpa using this
  · have h2 := S.setk (j := 0) (v := .slice p' (L.length + 1) c') k14
    rw [hlen]
    refine SG.congr (X := upd (pickF Zf L) L.length (Zf i)) (A := upd Ao L.length s) ?_ (fun j hj => pickF_snoc Zf L i hj) (fun _ _ => rfl)
    simpa [World.setCell] using h2
/-- A copy is appended: ahead of the store. -/
theorem PT.addedc {w V W : World} {b1 b4 b6 b13 b14 B0 B1 Bx : Nat} {v1 : Value} {p : Option Addr} {n c : Nat} {X : Nat → Nd} {A' : Nat → Na} {Zf : Nat → Nd} {xp : Nd} {sx : Na} {L : List Nat} {pl : Prop} {bs : Nat} {po : Option Addr} {co : Nat} {Ao : Nat → Na} (h : PT w V b1 b4 b6 b13 b14 B0 B1 Bx v1 p n c X A' Zf xp sx L pl bs po co Ao)
    {p' : Option Addr} {c' i : Nat} {s : Na} {y : Nd} (hg : V.grownBy W (Value.slice po L.length co).ownBlock) (S : SG W bs W.heap.size p' (L.length + 1) c' (upd (pickF Zf L) L.length y) (upd Ao L.length s)) (hy : Zf i = y) : PT w (W.setCell ⟨b14, 0, none⟩ (.slice p' (L.length + 1) c')) b1 b4 b6 b13 b14 B0 B1 Bx v1 p n c X A' Zf xp sx (L ++ [i]) pl bs p' c' (upd Ao L.length s) :=
  h.added hg (by rw [hy]; exact S) (h.xo.keptR hg h.so)
theorem PT.same {w u : World} {b1 b4 b6 b13 b14 B0 B1 Bx : Nat} {v1 : Value} {p : Option Addr} {n c : Nat} {X : Nat → Nd} {A' : Nat → Na} {Zf : Nat → Nd} {xp : Nd} {sx : Na} {L L' : List Nat} {pl pl' : Prop} {bs : Nat} {po : Option Addr} {co : Nat} {Ao : Nat → Na} (h : PT w u b1 b4 b6 b13 b14 B0 B1 Bx v1 p n c X A' Zf xp sx L pl bs po co Ao) (hL : L = L') (hp : ¬ pl' → ¬ pl) : PT w u b1 b4 b6 b13 b14 B0 B1 Bx v1 p n c X A' Zf xp sx L' pl' bs po co Ao := by
  subst hL
  exact ⟨h.r1, h.r4, h.r6, h.r14, h.hb, h.sk, h.so, ⟨h.xo.low, h.xo.top, fun np => h.xo.yet (hp np)⟩, h.lx⟩
/-- x is appended: behind the append and the store. -/
theorem PT.lowed {w V W : World} {b1 b4 b6 b13 b14 B0 B1 Bx : Nat} {v1 : Value} {p : Option Addr} {n c : Nat} {X : Nat → Nd} {A' : Nat → Na} {Zf : Nat → Nd} {xp : Nd} {sx : Na} {L : List Nat} {pl : Prop} {bs : Nat} {po : Option Addr} {co : Nat} {Ao : Nat → Na} (h : PT w V b1 b4 b6 b13 b14 B0 B1 Bx v1 p n c X A' Zf xp sx L pl bs po co Ao) {ob : Obj}
    {p' : Option Addr} {c' k : Nat} {pl' : Prop} (hg : (V.alloc ob).grownBy W (Value.slice po L.length co).ownBlock) (S : SG W Bx W.heap.size p' (L.length + 1) c' (upd (pickF Zf L) L.length xp) (upd Ao L.length sx)) (hk : Zf k = xp) (hp : pl') : PT w (W.setCell ⟨b14, 0, none⟩ (.slice p' (L.length + 1) c')) b1 b4 b6 b13 b14 B0 B1 Bx v1 p n c X A' Zf xp sx (L ++ [k]) pl' Bx p' c' (upd Ao L.length sx) := by
  have h2 := h.next (al1_below V ob)
  exact h2.added hg (by rw [hk]; exact S) ⟨Nat.le_refl _, Nat.le_trans h2.xo.low (Nat.le_trans h2.xo.top hg.size), fun np => absurd hp np⟩
theorem ord_k {X : Nat → Nd} {k : Nat} {beh : Int} : ∀ {i : Nat}, k ∈ ordS X k beh i → beh = 0 ∨ ∃ j, j < i ∧ (X j).id = beh
  | 0, h => by
    unfold ordS at h
    split at h
    · next e => exact .inl e
    · simp at h
  | i + 1, h => by
    unfold ordS at h
    rcases List.mem_append.1 h with h | h
    · rcases ord_k h with h | ⟨j, hj, e⟩
      · exact .inl h
      · exact .inr ⟨j, by omega, e⟩
    · rcases List.mem_append.1 h with h | h
      · split at h
        · simp at h
        · next e => exact absurd (List.mem_singleton.1 h).symm e
      · split at h
        · next e => exact .inr ⟨i, by omega, e.1⟩
        · simp at h
theorem ord_lt {X : Nat → Nd} {k : Nat} {beh : Int} : ∀ {i : Nat}, (ordS X k beh i).length ≤ 2 * i + 1
  | 0 => by unfold ordS; split <;> simp
  | i + 1 => by
    have := ord_lt (X := X) (k := k) (beh := beh) (i := i)
    unfold ordS
    simp only [List.length_append]
    split <;> split <;> simp <;> omega
set_option maxHeartbeats 16000000 in
set_option maxRecDepth 100000 in
theorem specPlaceNode_any (X : Nat → Nd) (A : Nat → Na) (ao : Option Addr) (n cp : Nat) (hn : n ≤ 1048576) (hs : ∀ i, i < n → (X i).Small) (hk : ∀ i, i < n → Caps (X i) (A i)) (id par beh : Int) (w : World) (P : ∀ i, i < n → NrAt w ao i (X i) (A i)) :
    Calls Tryz.prog 8 #[.agg #[.slice ao n cp], .int .i64 id, .int .i64 par, .int .i64 beh] w fun r w' => ChRes w r w' (placeC X n id par beh) n (placeX X n id par beh) := by
  have EC := hide (fun u (hu : Below w.heap.size w u) => specCopy_any X A ao n cp (by omega) hs hk u (fun i hi => (P i hi).next hu))
  have ES := hide (fun u (hu : Below w.heap.size w u) => specSceneOk_any X A ao n cp (by omega) hs u (fun i hi => (P i hi).next hu))
  have EA := hide (fun id u (hu : Below w.heap.size w u) => specNodeAt_any X A ao n cp (by omega) id u (fun i hi => (P i hi).next hu))
  have EU := hide (fun u (hu : Below w.heap.size w u) => under_any X A ao n cp (by omega) par id u (fun i hi => (P i hi).next hu))
  have EN := hide (fun k (hk' : k < n) u (hu : Below w.heap.size w u) => specCopyNode_any (X k) (A k) (hs k hk') (hk k hk') u (((P k hk').next hu).inn))
  have hsm := hide hs
  replace P := hide P
  clear hs hk
  have hC1 := hide (show placeC X n id par beh = if ¬ sceneOkB X n = true then 1 else if firstN X id n < 0 ∨ holdB X n par = false ∨ (beh ≠ 0 ∧ firstN X beh n < 0) ∨ beh = id then 2 else if par ≠ 0 ∧ underB X n par id = true then 6 else if ¬ sceneOkB (placeY X n id par beh) n = true then 5 else 0 from rfl)
  have hHold := hide (show holdB X n par = (decide (par = 0) || (decide (0 ≤ firstN X par n) && (X (firstN X par n).toNat).gr)) from rfl)
  go_enter Tryz.func8, Tryz.ntmps8
  go_upto_region 1 with fail
  have R1 := hide (al2_0 w (.cells #[.slice ao n cp] 26) (.cells #[.slice none 0 0] 26))
  have R4 := hide (al2_1 w (.cells #[.slice ao n cp] 26) (.cells #[.slice none 0 0] 26))
  have HB := hide (al2_below w (.cells #[.slice ao n cp] 26) (.cells #[.slice none 0 0] 26))
  obtain ⟨b4, hb4⟩ : ∃ b, Hid (b = w.heap.size + 1) := ⟨_, rfl⟩
  obtain ⟨b1, hb1⟩ : ∃ b, Hid (b = w.heap.size) := ⟨_, rfl⟩
  rw [← unhide hb4] at R4
  rw [← unhide hb1] at R1
  rw [← unhide hb4, ← unhide hb1]
  have lb := hide (show w.heap.size ≤ b1 ∧ b1 < b4 by rw [unhide hb4, unhide hb1]; omega)
  generalize (w.alloc (.cells #[.slice ao n cp] 26)).alloc (.cells #[.slice none 0 0] 26) = W at R1 R4 HB ⊢
  clear hb1 hb4
  -- the copy
  have c0 := row1 (unhide R1)
  obtain ⟨B0, hB0⟩ : ∃ B, Hid (B = W.heap.size) := ⟨_, rfl⟩
  have l4 := hide (show b4 < B0 by rw [unhide hB0]; exact heap_lt (unhide R4))
  go_wp2_with fail
  go_fit (unhide EC _ (unhide HB))
  rintro r u1 ⟨p, c, A', rfl, SGk, hb⟩
  have SGk := hide (show SG u1 B0 u1.heap.size p n c X A' by rw [unhide hB0]; exact SGk)
  replace R1 := hide (row_next hb (unhide R1))
  replace R4 := hide (row_next hb (unhide R4))
  replace HB := hide (below_two (unhide HB) hb)
  have lB := hide (show B0 ≤ u1.heap.size by rw [unhide hB0]; exact hb.size)
  clear hb c0
  go_upto_region 2 with fail
  have R6 := hide (new_row u1 (.cells #[.slice p n c] 26))
  have hb := al1_below u1 (.cells #[.slice p n c] 26)
  replace R1 := hide (row_next hb (unhide R1))
  replace R4 := hide (row_next hb (unhide R4))
  replace HB := hide (below_two (unhide HB) hb)
  replace SGk := hide ((unhide SGk).next hb)
  have lT := hide (show u1.heap.size ≤ (u1.alloc (.cells #[.slice p n c] 26)).heap.size from hb.size)
  clear hb
  generalize u1.alloc (.cells #[.slice p n c] 26) = U at R1 R4 R6 HB SGk lT ⊢
  generalize u1.heap.size = b6 at R6 SGk lB lT ⊢
  have lR := hide (show w.heap.size ≤ b1 ∧ b1 < b4 ∧ b4 < B0 ∧ B0 ≤ b6 by have := unhide lb; have := unhide l4; have := unhide lB; omega)
  have lB0 := hide (show w.heap.size ≤ B0 by have := unhide lR; omega)
  clear EC
  have c0 := row1 (unhide R1)
  have F := hide (unhide ES _ (unhide HB))
  go_wp2_with fail
  go_fit (unhide F)
  rintro r u2 ⟨rfl, hb⟩
  replace R1 := hide (row_next hb (unhide R1))
  replace R4 := hide (row_next hb (unhide R4))
  replace R6 := hide (row_next hb (unhide R6))
  replace HB := hide (below_two (unhide HB) hb)
  replace SGk := hide ((unhide SGk).next hb)
  replace lT := hide (Nat.le_trans (unhide lT) (hb).size)
  clear hb c0 F ES
  by_cases hok : sceneOkB X n = true
  rotate_left
  · have hM0 := hide (place_no (X := X) (n := n) (id := id) (par := par) (beh := beh) (c := 1) (by rw [unhide hC1, if_pos hok]) (by decide))
    have hok' : sceneOkB X n = false := by simpa using hok
    rw [hok']
    clear hok hok'
    have c6 := row1 (unhide R6)
    have c4 := row1 (unhide R4)
    have f4 := frozen_of_row _ b4 0 _ _ (unhide R4)
    have n6 : ¬ b4 = b6 := by have := unhide lR; omega
    go_wp2_with fail
    exact bodyPost_ret (v := .tuple #[.agg #[.slice p n c], .int .i64 1]) (by simp [results, Tryz.results8, go_sem, c4]) rfl (by obtain ⟨e0, e1⟩ := unhide hM0; rw [e0, e1]; exact ⟨p, c, A', rfl, (sgHigh (((unhide SGk).setk (j := 0) (v := .slice p n c) (unhide R4)).low (unhide lB0)) (by simpa [World.setCell] using unhide lT)), (unhide HB).setCell (p := ⟨b4, 0, none⟩) (by have := unhide lR; dsimp only; omega) _⟩)
  rw [hok]
  have hok' := hide hok
  rw [if_neg (fun h => h hok)] at hC1
  clear hok
  have c0 := row1 (unhide R1)
  go_wp2_with fail
  go_fit (unhide EA id _ (unhide HB))
  rintro r u3 ⟨rfl, hb⟩
  replace R1 := hide (row_next hb (unhide R1))
  replace R4 := hide (row_next hb (unhide R4))
  replace R6 := hide (row_next hb (unhide R6))
  replace HB := hide (below_two (unhide HB) hb)
  replace SGk := hide ((unhide SGk).next hb)
  replace lT := hide (Nat.le_trans (unhide lT) (hb).size)
  clear hb c0
  have c0 := row1 (unhide R1)
  go_wp2_with fail
  go_fit (unhide EA par _ (unhide HB))
  rintro r u4 ⟨rfl, hb⟩
  replace R1 := hide (row_next hb (unhide R1))
  replace R4 := hide (row_next hb (unhide R4))
  replace R6 := hide (row_next hb (unhide R6))
  replace HB := hide (below_two (unhide HB) hb)
  replace SGk := hide ((unhide SGk).next hb)
  replace lT := hide (Nat.le_trans (unhide lT) (hb).size)
  clear hb c0
  obtain ⟨bad, hbad⟩ : ∃ b : Bool, Hid (b = true ↔ (firstN X id n < 0 ∨ holdB X n par = false ∨ (beh ≠ 0 ∧ firstN X beh n < 0) ∨ beh = id)) := by
    by_cases h : (firstN X id n < 0 ∨ holdB X n par = false ∨ (beh ≠ 0 ∧ firstN X beh n < 0) ∨ beh = id)
    · exact ⟨true, ⟨fun _ => h, fun _ => rfl⟩⟩
    · exact ⟨false, ⟨fun e => (by cases e), fun e => absurd e h⟩⟩
  have l6 := hide (show b6 ≤ u4.heap.size from unhide lT)
  obtain ⟨Zk, hZk⟩ : ∃ z, Hid (firstN X id n = z) := ⟨_, rfl⟩
  obtain ⟨Zp, hZp⟩ : ∃ z, Hid (firstN X par n = z) := ⟨_, rfl⟩
  rw [unhide hZk, unhide hZp]
  go_upto_region 6 with fail
  go_cut [61] (fun v u => v = .bool bad ∧ ∃ W : World, W = u ∧ Hid (W.heap[b1]? = some (.cells #[.slice ao n cp] 26 (0, 0))) ∧ Hid (W.heap[b4]? = some (.cells #[.slice none 0 0] 26 (0, 0))) ∧ Hid (W.heap[b6]? = some (.cells #[.slice p n c] 26 (0, 0))) ∧ Hid (Below w.heap.size w W) ∧ Hid (SG W B0 b6 p n c X A') ∧ Hid (b6 ≤ W.heap.size))
  case first =>
    have c0 := row1 (unhide R1)
    rw [unhide hZk] at hbad
    by_cases hf : Zk < 0
    · obtain rfl : bad = true := (unhide hbad).2 (.inl hf)
      clear hbad
      go_wp2_with fail
      go_meet
      exact ⟨rfl, _, rfl, R1, R4, R6, HB, SGk, lT⟩
    rw [unhide hZp] at hHold
    cases hh : holdB X n par with
    | false =>
      obtain rfl : bad = true := (unhide hbad).2 (.inr (.inl hh))
      rw [hh] at hHold
      have hh2 := unhide hHold
      simp only [Bool.false_eq, Bool.or_eq_false_iff, decide_eq_false_iff_not, Bool.and_eq_false_iff] at hh2
      obtain ⟨hp0, hp1⟩ := hh2
      have e0 : (par != 0) = true := bne_iff_ne.2 hp0
      clear hHold hbad hh hp0
      by_cases hf2 : Zp < 0
      · clear hp1
        go_wp2_with fail
        go_meet
        exact ⟨rfl, _, rfl, R1, R4, R6, HB, SGk, lT⟩
      · obtain ⟨j, hj, ej, _⟩ := first_lt (X := X) (id := par) (n := n) (by rw [unhide hZp]; exact hf2)
        rw [unhide hZp] at ej
        subst ej
        have hgr : (X j).gr = false := hp1.resolve_left (by omega)
        obtain ⟨b, o, hao, hrg⟩ := ((unhide P j hj).next (unhide HB)).range
        subst hao
        have c2 : u4.cell? ⟨b, o + j * 31 + 2, none⟩ = some (.bool false) := by rw [← hgr]; exact hrg 2 _ rfl
        have hjn : (j : Int) < (n : Int) := by omega
        clear hp1 hrg hgr hZp
        go_wp2_with fail
        go_meet
        exact ⟨rfl, _, rfl, R1, R4, R6, HB, SGk, lT⟩
    | true =>
      rw [hh] at hHold hbad
      have hh2 := unhide hHold
      simp only [Bool.true_eq, Bool.or_eq_true, decide_eq_true_eq, Bool.and_eq_true] at hh2
      have hb2 : bad = true ↔ ((beh ≠ 0 ∧ firstN X beh n < 0) ∨ beh = id) := by
        rw [unhide hbad]
        constructor
        · rintro (h | h | h)
          · exact absurd h hf
          · cases h
          · exact h
        · exact fun h => .inr (.inr h)
      replace hb2 := hide hb2
      clear hHold hbad hh
      rcases hh2 with hp0 | ⟨hp1, hp2⟩
      · subst hp0
        clear hZp
        by_cases hb0 : beh = 0
        · subst hb0
          by_cases hbi : (0 : Int) = id
          · obtain rfl : bad = true := (unhide hb2).2 (.inr hbi)
            subst hbi
            clear hb2
            go_wp2_with fail
            go_meet
            exact ⟨rfl, _, rfl, R1, R4, R6, HB, SGk, lT⟩
          · obtain rfl : bad = false := by
              cases bad with
              | false => rfl
              | true => exact absurd ((unhide hb2).1 rfl) (fun h => h.elim (fun h => h.1 rfl) hbi)
            have e9 : ((0 : Int) == id) = false := beq_eq_false_iff_ne.2 hbi
            clear hb2 hbi
            go_wp2_with fail
            go_meet
            exact ⟨rfl, _, rfl, R1, R4, R6, HB, SGk, lT⟩
        have e8 : (beh != 0) = true := bne_iff_ne.2 hb0
        have F := hide (unhide EA beh _ (unhide HB))
        go_wp2_with fail
        go_fit (unhide F)
        rintro r u5 ⟨rfl, hb⟩
        replace R1 := hide (row_next hb (unhide R1))
        replace R4 := hide (row_next hb (unhide R4))
        replace R6 := hide (row_next hb (unhide R6))
        replace HB := hide (below_two (unhide HB) hb)
        replace SGk := hide ((unhide SGk).next hb)
        replace lT := hide (Nat.le_trans (unhide lT) (hb).size)
        clear hb c0 F
        by_cases hbf : firstN X beh n < 0
        · obtain rfl : bad = true := (unhide hb2).2 (.inl ⟨hb0, hbf⟩)
          generalize firstN X beh n = Zb at hbf ⊢
          clear hb2 hb0
          go_wp2_with fail
          go_meet
          exact ⟨rfl, _, rfl, R1, R4, R6, HB, SGk, lT⟩
        · by_cases hbi : beh = id
          · obtain rfl : bad = true := (unhide hb2).2 (.inr hbi)
            generalize firstN X beh n = Zb at hbf ⊢
            subst hbi
            clear hb2 hb0
            go_wp2_with fail
            go_meet
            exact ⟨rfl, _, rfl, R1, R4, R6, HB, SGk, lT⟩
          · obtain rfl : bad = false := by
              cases bad with
              | false => rfl
              | true => exact absurd ((unhide hb2).1 rfl) (fun h => h.elim (fun h => hbf h.2) hbi)
            have e9 : (beh == id) = false := beq_eq_false_iff_ne.2 hbi
            generalize firstN X beh n = Zb at hbf ⊢
            clear hb2 hb0 hbi
            go_wp2_with fail
            go_meet
            exact ⟨by rw [decide_eq_false (by omega)], _, rfl, R1, R4, R6, HB, SGk, lT⟩
      · have hf2 : ¬ Zp < 0 := by omega
        by_cases hp0 : par = 0
        · subst hp0
          clear hZp hp1 hp2 hf2
          by_cases hb0 : beh = 0
          · subst hb0
            by_cases hbi : (0 : Int) = id
            · obtain rfl : bad = true := (unhide hb2).2 (.inr hbi)
              subst hbi
              clear hb2
              go_wp2_with fail
              go_meet
              exact ⟨rfl, _, rfl, R1, R4, R6, HB, SGk, lT⟩
            · obtain rfl : bad = false := by
                cases bad with
                | false => rfl
                | true => exact absurd ((unhide hb2).1 rfl) (fun h => h.elim (fun h => h.1 rfl) hbi)
              have e9 : ((0 : Int) == id) = false := beq_eq_false_iff_ne.2 hbi
              clear hb2 hbi
              go_wp2_with fail
              go_meet
              exact ⟨rfl, _, rfl, R1, R4, R6, HB, SGk, lT⟩
          have e8 : (beh != 0) = true := bne_iff_ne.2 hb0
          have F := hide (unhide EA beh _ (unhide HB))
          go_wp2_with fail
          go_fit (unhide F)
          rintro r u5 ⟨rfl, hb⟩
          replace R1 := hide (row_next hb (unhide R1))
          replace R4 := hide (row_next hb (unhide R4))
          replace R6 := hide (row_next hb (unhide R6))
          replace HB := hide (below_two (unhide HB) hb)
          replace SGk := hide ((unhide SGk).next hb)
          replace lT := hide (Nat.le_trans (unhide lT) (hb).size)
          clear hb c0 F
          by_cases hbf : firstN X beh n < 0
          · obtain rfl : bad = true := (unhide hb2).2 (.inl ⟨hb0, hbf⟩)
            generalize firstN X beh n = Zb at hbf ⊢
            clear hb2 hb0
            go_wp2_with fail
            go_meet
            exact ⟨rfl, _, rfl, R1, R4, R6, HB, SGk, lT⟩
          · by_cases hbi : beh = id
            · obtain rfl : bad = true := (unhide hb2).2 (.inr hbi)
              generalize firstN X beh n = Zb at hbf ⊢
              subst hbi
              clear hb2 hb0
              go_wp2_with fail
              go_meet
              exact ⟨rfl, _, rfl, R1, R4, R6, HB, SGk, lT⟩
            · obtain rfl : bad = false := by
                cases bad with
                | false => rfl
                | true => exact absurd ((unhide hb2).1 rfl) (fun h => h.elim (fun h => hbf h.2) hbi)
              have e9 : (beh == id) = false := beq_eq_false_iff_ne.2 hbi
              generalize firstN X beh n = Zb at hbf ⊢
              clear hb2 hb0 hbi
              go_wp2_with fail
              go_meet
              exact ⟨by rw [decide_eq_false (by omega)], _, rfl, R1, R4, R6, HB, SGk, lT⟩
        have e0 : (par != 0) = true := bne_iff_ne.2 hp0
        obtain ⟨j, hj, ej, _⟩ := first_lt (X := X) (id := par) (n := n) (by rw [unhide hZp]; exact hf2)
        rw [unhide hZp] at ej
        subst ej
        have hgr : (X j).gr = true := hp2
        obtain ⟨b, o, hao, hrg⟩ := ((unhide P j hj).next (unhide HB)).range
        subst hao
        have c2 : u4.cell? ⟨b, o + j * 31 + 2, none⟩ = some (.bool true) := by rw [← hgr]; exact hrg 2 _ rfl
        have hjn : (j : Int) < (n : Int) := by omega
        clear hp1 hp2 hp0 hrg hgr hZp
        by_cases hb0 : beh = 0
        · subst hb0
          by_cases hbi : (0 : Int) = id
          · obtain rfl : bad = true := (unhide hb2).2 (.inr hbi)
            subst hbi
            clear hb2
            go_wp2_with fail
            go_meet
            exact ⟨rfl, _, rfl, R1, R4, R6, HB, SGk, lT⟩
          · obtain rfl : bad = false := by
              cases bad with
              | false => rfl
              | true => exact absurd ((unhide hb2).1 rfl) (fun h => h.elim (fun h => h.1 rfl) hbi)
            have e9 : ((0 : Int) == id) = false := beq_eq_false_iff_ne.2 hbi
            clear hb2 hbi
            go_wp2_with fail
            go_meet
            exact ⟨rfl, _, rfl, R1, R4, R6, HB, SGk, lT⟩
        have e8 : (beh != 0) = true := bne_iff_ne.2 hb0
        have F := hide (unhide EA beh _ (unhide HB))
        go_wp2_with fail
        go_fit (unhide F)
        rintro r u5 ⟨rfl, hb⟩
        replace R1 := hide (row_next hb (unhide R1))
        replace R4 := hide (row_next hb (unhide R4))
        replace R6 := hide (row_next hb (unhide R6))
        replace HB := hide (below_two (unhide HB) hb)
        replace SGk := hide ((unhide SGk).next hb)
        replace lT := hide (Nat.le_trans (unhide lT) (hb).size)
        clear hb c0 F
        by_cases hbf : firstN X beh n < 0
        · obtain rfl : bad = true := (unhide hb2).2 (.inl ⟨hb0, hbf⟩)
          generalize firstN X beh n = Zb at hbf ⊢
          clear hb2 hb0
          go_wp2_with fail
          go_meet
          exact ⟨rfl, _, rfl, R1, R4, R6, HB, SGk, lT⟩
        · by_cases hbi : beh = id
          · obtain rfl : bad = true := (unhide hb2).2 (.inr hbi)
            generalize firstN X beh n = Zb at hbf ⊢
            subst hbi
            clear hb2 hb0
            go_wp2_with fail
            go_meet
            exact ⟨rfl, _, rfl, R1, R4, R6, HB, SGk, lT⟩
          · obtain rfl : bad = false := by
              cases bad with
              | false => rfl
              | true => exact absurd ((unhide hb2).1 rfl) (fun h => h.elim (fun h => hbf h.2) hbi)
            have e9 : (beh == id) = false := beq_eq_false_iff_ne.2 hbi
            generalize firstN X beh n = Zb at hbf ⊢
            clear hb2 hb0 hbi
            go_wp2_with fail
            go_meet
            exact ⟨by rw [decide_eq_false (by omega)], _, rfl, R1, R4, R6, HB, SGk, lT⟩
  case rest =>
  clear R1 R4 R6 HB SGk lT
  obtain ⟨hv, WF, hWF, R1, R4, R6, HB, SGk, lT⟩ := hcut
  subst hWF
  subst hv
  cases bad with
  | true =>
    have hM0 := hide (place_no (X := X) (n := n) (id := id) (par := par) (beh := beh) (c := 2) (by rw [unhide hC1, if_pos ((unhide hbad).1 rfl)]) (by decide))
    clear hbad hC1
    have c6 := row1 (unhide R6)
    have c4 := row1 (unhide R4)
    have f4 := frozen_of_row _ b4 0 _ _ (unhide R4)
    have n6 : ¬ b4 = b6 := by have := unhide lR; omega
    go_wp2_with fail
    exact bodyPost_ret (v := .tuple #[.agg #[.slice p n c], .int .i64 2]) (by simp [results, Tryz.results8, go_sem, c4]) rfl (by obtain ⟨e0, e1⟩ := unhide hM0; rw [e0, e1]; exact ⟨p, c, A', rfl, (sgHigh (((unhide SGk).setk (j := 0) (v := .slice p n c) (unhide R4)).low (unhide lB0)) (by simpa [World.setCell] using unhide lT)), (unhide HB).setCell (p := ⟨b4, 0, none⟩) (by have := unhide lR; dsimp only; omega) _⟩)
  | false =>
  have hnb : ¬ (firstN X id n < 0 ∨ holdB X n par = false ∨ (beh ≠ 0 ∧ firstN X beh n < 0) ∨ beh = id) := fun h => by have := (unhide hbad).2 h; cases this
  rw [if_neg hnb] at hC1
  obtain ⟨hS, k, q, hk, e1, e2, hh, hbh, hne, hZ, hq1, hq2, hL⟩ := place_parts (unhide hok') hnb
  have hnb' := hide hnb
  have hLo := hide (show ordS X k beh n = insQ k n q by have h := hL; unfold placeL at h; rw [e1] at h; exact h)
  have hYo := hide (show placeY X n id par beh = pickF (upd X k ((X k).withPar par)) (insQ k n q) by unfold placeY; rw [hZ, hL])
  rw [unhide hZk] at e1
  subst e1
  clear hnb hbad hHold
  obtain ⟨ring, hring⟩ : ∃ b : Bool, Hid (b = true ↔ (par ≠ 0 ∧ underB X n par id = true)) := by
    by_cases h : (par ≠ 0 ∧ underB X n par id = true)
    · exact ⟨true, ⟨fun _ => h, fun _ => rfl⟩⟩
    · exact ⟨false, ⟨fun e => (by cases e), fun e => absurd e h⟩⟩
  have hS' := hide hS
  have hbh' := hide hbh
  have hne' := hide hne
  have e2' := hide e2
  clear hS hZ hL hbh hne e2 hh hq1 hq2 hZk hZp
  go_upto_region 8 with fail
  go_cut [70] (fun v u => v = .bool ring ∧ ∃ W : World, W = u ∧ Hid (W.heap[b1]? = some (.cells #[.slice ao n cp] 26 (0, 0))) ∧ Hid (W.heap[b4]? = some (.cells #[.slice none 0 0] 26 (0, 0))) ∧ Hid (W.heap[b6]? = some (.cells #[.slice p n c] 26 (0, 0))) ∧ Hid (Below w.heap.size w W) ∧ Hid (SG W B0 b6 p n c X A') ∧ Hid (b6 ≤ W.heap.size))
  case first =>
    by_cases hp0 : par = 0
    · obtain rfl : ring = false := by
        cases ring with
        | false => rfl
        | true => exact absurd hp0 ((unhide hring).1 rfl).1
      subst hp0
      clear hring
      go_wp2_with fail
      go_meet
      exact ⟨rfl, _, rfl, R1, R4, R6, HB, SGk, lT⟩
    · have e0 : (par != 0) = true := bne_iff_ne.2 hp0
      have hrb : underB X n par id = ring := by
        rw [Bool.eq_iff_iff, unhide hring]
        exact ⟨fun h => ⟨hp0, h⟩, fun h => h.2⟩
      have F := hide (unhide EU _ (unhide HB))
      rw [hrb] at F
      have c0 := row1 (unhide R1)
      clear hrb hring hp0
      go_wp2_with fail
      go_fit (unhide F)
      rintro r u5 ⟨rfl, hb⟩
      replace R1 := hide (row_next hb (unhide R1))
      replace R4 := hide (row_next hb (unhide R4))
      replace R6 := hide (row_next hb (unhide R6))
      replace HB := hide (below_two (unhide HB) hb)
      replace SGk := hide ((unhide SGk).next hb)
      replace lT := hide (Nat.le_trans (unhide lT) (hb).size)
      clear hb c0 F
      go_wp2_with fail
      go_meet
      exact ⟨rfl, _, rfl, R1, R4, R6, HB, SGk, lT⟩
  case rest =>
  clear R1 R4 R6 HB SGk lT
  obtain ⟨hv, WF, hWF, R1, R4, R6, HB, SGk, lT⟩ := hcut
  subst hWF
  subst hv
  cases ring with
  | true =>
    have hM0 := hide (place_no (X := X) (n := n) (id := id) (par := par) (beh := beh) (c := 6) (by rw [unhide hC1, if_pos ((unhide hring).1 rfl)]) (by decide))
    clear hring hC1
    have c6 := row1 (unhide R6)
    have c4 := row1 (unhide R4)
    have f4 := frozen_of_row _ b4 0 _ _ (unhide R4)
    have n6 : ¬ b4 = b6 := by have := unhide lR; omega
    go_wp2_with fail
    exact bodyPost_ret (v := .tuple #[.agg #[.slice p n c], .int .i64 6]) (by simp [results, Tryz.results8, go_sem, c4]) rfl (by obtain ⟨e0, e1⟩ := unhide hM0; rw [e0, e1]; exact ⟨p, c, A', rfl, (sgHigh (((unhide SGk).setk (j := 0) (v := .slice p n c) (unhide R4)).low (unhide lB0)) (by simpa [World.setCell] using unhide lT)), (unhide HB).setCell (p := ⟨b4, 0, none⟩) (by have := unhide lR; dsimp only; omega) _⟩)
  | false =>
  have hnr : ¬ (par ≠ 0 ∧ underB X n par id = true) := fun h => by have := (unhide hring).2 h; cases this
  rw [if_neg hnr] at hC1
  clear hnr hring EU
  -- the node itself
  obtain ⟨b, o, hao, hrg⟩ := ((unhide P k hk).next (unhide HB)).range
  replace hrg := hide hrg
  subst hao
  have c0 := row1 (unhide R1)
  have hkn : (k : Int) < (n : Int) := by omega
  go_wp2_with (refine load_node rfl _ rfl b (o + k * 31) rfl (X k) (A k) (unhide hrg) ?_)
  go_fit (unhide EN k hk _ (unhide HB))
  rintro r u7 ⟨sx, rfl, hx, hb⟩
  obtain ⟨Bx, hBx⟩ : ∃ B, Hid (B = WF.heap.size) := ⟨_, rfl⟩
  have lBx := hide (show b6 ≤ Bx by rw [unhide hBx]; exact unhide lT)
  have hx := hide (show NdG u7 Bx (X k) sx by rw [unhide hBx]; exact hx)
  have hx8 := hide (show ∀ l, l < 5 → ∀ q, (lvl (X k) sx l).ownBlock = some q → q < u7.heap.size from fun l hl q e => (((unhide hx).own l hl).lt q e).2)
  have lBu := hide (show Bx ≤ u7.heap.size by rw [unhide hBx]; exact hb.size)
  replace R1 := hide (row_next hb (unhide R1))
  replace R4 := hide (row_next hb (unhide R4))
  replace R6 := hide (row_next hb (unhide R6))
  replace HB := hide (below_two (unhide HB) hb)
  replace SGk := hide ((unhide SGk).next hb)
  replace lT := hide (Nat.le_trans (unhide lT) (hb).size)
  clear hb c0 hrg
  go_upto_region 11 with (with_reducible refine store_new rfl _ _ rfl _ (X k) sx rfl rfl rfl ?_)
  have R13 := hide (new_row u7 (.cells (ndC (X k) sx) 47))
  have hb := al1_below u7 (.cells (ndC (X k) sx) 47)
  replace hx := hide ((unhide hx).next hb)
  replace R1 := hide (row_next hb (unhide R1))
  replace R4 := hide (row_next hb (unhide R4))
  replace R6 := hide (row_next hb (unhide R6))
  replace HB := hide (below_two (unhide HB) hb)
  replace SGk := hide ((unhide SGk).next hb)
  replace lT := hide (Nat.le_trans (unhide lT) (hb).size)
  clear hb
  generalize u7.alloc (.cells (ndC (X k) sx) 47) = U8 at R1 R4 R6 R13 HB SGk lT hx ⊢
  generalize u7.heap.size = b13 at R13 hx8 lBu ⊢
  obtain ⟨d0, d1, d2⟩ := headsC (unhide R13)
  have f1 := frozen_of_row U8 b13 1 _ _ (unhide R13)
  go_upto_region 12 with fail
  clear d0 d1 d2 f1
  have l13 := hide (show b6 ≤ b13 ∧ b1 ≠ b13 ∧ b4 ≠ b13 ∧ b6 ≠ b13 ∧ w.heap.size ≤ b13 by
    have := unhide lR; have := unhide lBx; have := unhide lBu
    have h6 : b6 ≠ b13 := fun e => by have h1 := unhide R6; rw [e, unhide R13] at h1; cases h1
    omega)
  replace R13 := hide (setC (j := 1) (v := .int .i64 par) (unhide R13))
  rw [ndC_par] at R13
  replace R1 := hide (setc_other (b := b13) (j := 1) (v := .int .i64 par) (unhide l13).2.1 (unhide R1))
  replace R4 := hide (setc_other (b := b13) (j := 1) (v := .int .i64 par) (unhide l13).2.2.1 (unhide R4))
  replace R6 := hide (setc_other (b := b13) (j := 1) (v := .int .i64 par) (unhide l13).2.2.2.1 (unhide R6))
  replace HB := hide ((unhide HB).setCell (p := ⟨b13, 1, none⟩) (unhide l13).2.2.2.2 (.int .i64 par))
  replace SGk := hide (show SG (U8.setCell ⟨b13, 1, none⟩ (.int .i64 par)) B0 b6 p n c X A' from sg_setn (unhide SGk) (unhide l13).1)
  replace lT := hide (show b6 ≤ (U8.setCell ⟨b13, 1, none⟩ (.int .i64 par)).heap.size by have := unhide lT; simpa [World.setCell] using this)
  replace hx := hide (show NdG (U8.setCell ⟨b13, 1, none⟩ (.int .i64 par)) Bx ((X k).withPar par) sx from (nd_setn (unhide hx) (unhide hx8)).withPar _)
  replace hx8 := hide (show ∀ l, l < 5 → ∀ q, (lvl ((X k).withPar par) sx l).ownBlock = some q → q < b13 from fun l hl q e => unhide hx8 l hl q (by rw [← lvl_par (X k) par]; exact e))
  generalize U8.setCell ⟨b13, 1, none⟩ (.int .i64 par) = U9 at R1 R4 R6 R13 HB SGk lT hx ⊢
  obtain ⟨xp, hxp⟩ : ∃ z, Hid ((X k).withPar par = z) := ⟨_, rfl⟩
  rw [unhide hxp] at R13 hx hx8
  obtain ⟨Zf, hZf⟩ : ∃ f, Hid (upd X k ((X k).withPar par) = f) := ⟨_, rfl⟩
  rw [unhide hZf] at hYo
  have hZi := hide (show ∀ i, i ≠ k → Zf i = X i from fun i hi => by rw [← unhide hZf]; exact upd_ne _ _ hi)
  have hZk := hide (show Zf k = xp by rw [← unhide hZf, upd_at]; exact unhide hxp)
  go_upto_region 13 with fail
  have l14 := hide (show b13 < U9.heap.size from heap_lt (unhide R13))
  have R14 := hide (new_row U9 (.cells #[.slice none 0 0] 26))
  have hb := al1_below U9 (.cells #[.slice none 0 0] 26)
  replace R13 := hide (row_next hb (unhide R13))
  replace hx := hide ((unhide hx).next hb)
  replace R1 := hide (row_next hb (unhide R1))
  replace R4 := hide (row_next hb (unhide R4))
  replace R6 := hide (row_next hb (unhide R6))
  replace HB := hide (below_two (unhide HB) hb)
  replace SGk := hide ((unhide SGk).next hb)
  replace lT := hide (Nat.le_trans (unhide lT) (hb).size)
  clear hb
  generalize U9.alloc (.cells #[.slice none 0 0] 26) = U10 at R1 R4 R6 R13 R14 HB SGk lT hx ⊢
  generalize U9.heap.size = b14 at R14 l14 ⊢
  obtain ⟨B1, hB1⟩ : ∃ B, Hid (B = b14 + 1) := ⟨_, rfl⟩
  have lX := hide (show b6 < b14 ∧ b13 < b14 ∧ b14 < B1 ∧ b6 ≤ Bx ∧ Bx ≤ b13 ∧ b1 < b6 ∧ b4 < b6 ∧ w.heap.size ≤ b14 by have := unhide hB1; have := unhide l14; have := unhide lBx; have := unhide lBu; have := unhide l13; have := unhide lR; omega)
  have PT0 := hide (show PT w U10 b1 b4 b6 b13 b14 B0 B1 Bx (.slice (some ⟨b, o, none⟩) n cp) p n c X A' Zf xp sx [] False B1 none 0 A' from ⟨unhide R1, unhide R4, unhide R6, unhide R14, unhide HB, unhide SGk, sg_nil _ _ _ _ _, ⟨by have := unhide lX; omega, by have := heap_lt (unhide R14); have := unhide hB1; omega, fun _ => ⟨rfl, unhide R13, unhide hx, by have := unhide lX; omega, unhide hx8⟩⟩, by have := unhide lX; have := unhide lR; omega⟩)
  clear R1 R4 R6 R14 HB SGk R13 hx hx8 l13 l14 lT
  -- behind 0 the node comes first
  go_upto_if 82 with fail
  generalize hz0 : (beh == 0) = z0
  replace hz0 := hide hz0
  go_cut [82] (fun _ u => ∃ W : World, W = u ∧ ∃ (bs : Nat) (po : Option Addr) (co : Nat) (Ao : Nat → Na), Hid (PT w W b1 b4 b6 b13 b14 B0 B1 Bx (.slice (some ⟨b, o, none⟩) n cp) p n c X A' Zf xp sx (ordS X k beh 0) (k ∈ ordS X k beh 0) bs po co Ao))
  case first =>
    cases z0 with
    | true =>
      have h0 : beh = 0 := beq_iff_eq.1 (unhide hz0)
      have eo : ordS X k beh 0 = [] ++ [k] := by unfold ordS; rw [if_pos h0]; rfl
      clear h0 hz0
      have hLn : ([] : List Nat).length ≤ 1048576 := Nat.zero_le _
      obtain ⟨_, q13, hxg, q13l, hx8⟩ := (unhide PT0).xo.yet (fun h => h)
      have hxg' := hide hxg
      have q13' := hide q13
      have hx8' := hide (show ∀ l, l < 5 → ∀ q, (lvl xp sx l).ownBlock = some q → q < _ from hx8)
      have c14 := row1 (unhide PT0).r14
      have q13l' := hide q13l
      clear hxg q13 hx8 q13l
      go_wp2_with (first | with_reducible refine load_own rfl _ rfl b13 rfl xp sx 47 (unhide q13') ?_ | with_reducible refine wpList_build_nd rfl _ rfl xp sx rfl ?_ | (with_reducible refine at_append _ _ rfl ?_; refine wpList_append_low rfl _ _ rfl (unhide PT0).so (unhide PT0).xo.top (unhide hxg') (unhide PT0).xo.low (fun l hl q e => by have h1 := unhide hx8' l hl q e; have h2 := (unhide PT0).xo.yet (fun h => h); have h3 := (unhide PT0).lx; omega) hLn rfl rfl ?_; intro p' c' W2 SGn g6; have r14n := hide (((unhide PT0).so.alloc (.cells (ndC xp sx) 47)).kind g6 (old_row _ (unhide PT0).r14)); have c14n := row1 (unhide r14n); have f14n := frozen_of_row W2 b14 0 _ _ (unhide r14n); clear c14))
      have PTn := hide ((unhide PT0).lowed (pl' := k ∈ ordS X k beh 0) g6 SGn (unhide hZk) (by rw [eo]; simp))
      rw [← eo] at PTn
      clear eo
      go_wp2_with fail
      go_meet
      exact ⟨_, rfl, _, _, _, _, PTn⟩
    | false =>
      have h0 : beh ≠ 0 := beq_eq_false_iff_ne.1 (unhide hz0)
      have eo : ordS X k beh 0 = [] := by unfold ordS; rw [if_neg h0]
      have PTn := hide ((unhide PT0).same (pl' := k ∈ ordS X k beh 0) eo.symm (fun _ h => h))
      clear h0 eo hz0
      go_wp2_with fail
      go_meet
      exact ⟨_, rfl, _, _, _, _, PTn⟩
  case rest =>
  clear PT0
  obtain ⟨WG, hWG, bs0, po0, co0, Ao0, PT0⟩ := hcut
  subst hWG
  go_upto_region 16 with fail
  go_loopw [15] (fun t u => ∃ i : Nat, i ≤ n ∧ t = .int .i64 (i : Int) ∧ ∃ W : World, W = u ∧ ∃ (bs : Nat) (po : Option Addr) (co : Nat) (Ao : Nat → Na), Hid (PT w W b1 b4 b6 b13 b14 B0 B1 Bx (.slice (some ⟨b, o, none⟩) n cp) p n c X A' Zf xp sx (ordS X k beh i) (k ∈ ordS X k beh i) bs po co Ao)) (fun t _ => n - (intOf t).toNat)
  case atStart => exact ⟨0, Nat.zero_le _, rfl, _, rfl, _, _, _, _, PT0⟩
  case round =>
    clear PT0
    obtain ⟨i, hi, rfl, W, hW, bs, po, co, Ao, PTi⟩ := hrel
    subst hW
    by_cases hlt : i < n
    · have hki : (i : Int) < (n : Int) := by omega
      have hLm := hide (show (ordS X k beh i).length ≤ 2 * i + 1 from ord_lt)
      have n8 : n ≤ 8 := (unhide hS').1
      have PR := hide (show ∀ u, Below w.heap.size w u → u.rangeAt b (o + i * 31) (ndC (X i) (A i)).toList from fun u hu => by
        obtain ⟨b', o', e, h⟩ := ((unhide P i hlt).next hu).range
        cases e
        exact h)
      have c0 := row1 (unhide PTi).r1
      by_cases eik : i = k
      · subst eik
        go_upto_region 20 with fail
        clear c0
        have ci : W.cell? ⟨b, o + i * 31, none⟩ = some (.int .i64 (X i).id) := unhide PR _ (unhide PTi).hb 0 _ rfl
        have c0 := row1 (unhide PTi).r1
        by_cases hid : (X i).id = beh
        · have hb0 : beh ≠ 0 := by have := (node_ids (okAt_iff.1 ((unhide hS').2 i hlt)).1).1; omega
          have h9 : (beh != 0) = true := bne_iff_ne.2 hb0
          have h8 : ((X i).id == beh) = true := beq_iff_eq.2 hid
          have hnot : ¬ i ∈ ordS X i beh i := fun h => (ord_k h).elim hb0 (fun ⟨j, hj, e⟩ => absurd ((unhide hS').uniq j i (by omega) hlt (e.trans hid.symm)) (by omega))
          have eo : ordS X i beh (i + 1) = ordS X i beh i ++ [i] := by show ordS X i beh i ++ ((if i = i then [] else [i]) ++ (if (X i).id = beh ∧ beh ≠ 0 then [i] else [])) = _; rw [if_pos rfl, if_pos ⟨hid, hb0⟩]; rfl
          have hLn : (ordS X i beh i).length ≤ 1048576 := by have := unhide hLm; omega
          have hnot' := hide hnot
          replace eo := hide eo
          obtain ⟨zi, hzi⟩ : ∃ z, Hid ((X i).id = z) := ⟨_, rfl⟩
          rw [unhide hzi] at ci h8
          clear hid hb0 hnot
          obtain ⟨_, q13, hxg, q13l, hx8⟩ := (unhide PTi).xo.yet (unhide hnot')
          have hxg' := hide hxg
          have q13' := hide q13
          have hx8' := hide (show ∀ l, l < 5 → ∀ q, (lvl xp sx l).ownBlock = some q → q < _ from hx8)
          have c14 := row1 (unhide PTi).r14
          have q13l' := hide q13l
          clear hxg q13 hx8 q13l
          go_wp2_with (first | with_reducible refine load_own rfl _ rfl b13 rfl xp sx 47 (unhide q13') ?_ | with_reducible refine wpList_build_nd rfl _ rfl xp sx rfl ?_ | (with_reducible refine at_append _ _ rfl ?_; refine wpList_append_low rfl _ _ rfl (unhide PTi).so (unhide PTi).xo.top (unhide hxg') (unhide PTi).xo.low (fun l hl q e => by have h1 := unhide hx8' l hl q e; have h2 := (unhide PTi).xo.yet (unhide hnot'); have h3 := (unhide PTi).lx; omega) hLn rfl rfl ?_; intro p' c' W2 SGn g6; have r14n := hide (((unhide PTi).so.alloc (.cells (ndC xp sx) 47)).kind g6 (old_row _ (unhide PTi).r14)); have c14n := row1 (unhide r14n); have f14n := frozen_of_row W2 b14 0 _ _ (unhide r14n); clear c14))
          have PTn := hide ((unhide PTi).lowed (pl' := i ∈ ordS X i beh (i + 1)) g6 SGn (unhide hZk) (by rw [unhide eo]; simp))
          rw [← unhide eo] at PTn
          go_roundw
          case rel => exact ⟨i + 1, by omega, by go_num, _, rfl, _, _, _, _, PTn⟩
          case measure => simp [intOf]; omega
        · have h8 : ((X i).id == beh) = false := beq_eq_false_iff_ne.2 hid
          have eo : ordS X i beh (i + 1) = ordS X i beh i := by show ordS X i beh i ++ ((if i = i then [] else [i]) ++ (if (X i).id = beh ∧ beh ≠ 0 then [i] else [])) = _; rw [if_pos rfl, if_neg (fun h => hid h.1)]; simp
          have PTn := hide ((unhide PTi).same (pl' := i ∈ ordS X i beh (i + 1)) eo.symm (fun h h2 => h (by rw [eo]; exact h2)))
          obtain ⟨zi, hzi⟩ : ∃ z, Hid ((X i).id = z) := ⟨_, rfl⟩
          rw [unhide hzi] at ci h8
          clear hid eo
          go_wp2_with fail
          go_roundw
          case rel => exact ⟨i + 1, by omega, by go_num, _, rfl, _, _, _, _, PTn⟩
          case measure => simp [intOf]; omega
      · have enk : ((i : Int) != (k : Int)) = true := bne_iff_ne.2 (by omega)
        go_upto_region 19 with fail
        clear c0
        go_cut [108] (fun v u => ∃ W' : World, W' = u ∧ ∃ (bs : Nat) (po : Option Addr) (co : Nat) (Ao : Nat → Na), Hid (PT w W' b1 b4 b6 b13 b14 B0 B1 Bx (.slice (some ⟨b, o, none⟩) n cp) p n c X A' Zf xp sx (ordS X k beh i ++ [i]) (k ∈ ordS X k beh i) bs po co Ao))
        case first =>
          have PTd := hide ((unhide PTi).next (Below.refl W.heap.size W).drew)
          refine wp_region_held_drew (S := (fun u => u.cell? ⟨b1, 0, none⟩ = some (.slice (some ⟨b, o, none⟩) n cp) ∧ u.rangeAt b (o + i * 31) (ndC (X i) (A i)).toList)) (by kernel_rfl) ?_ (fun hHeld => ?_)
          · exact ⟨row1 (unhide PTd).r1, unhide PR _ (unhide PTd).hb⟩
          have PT1 := hide (unhide PTd)
          clear PTi PTd
          generalize W.drew = V0 at PT1 hHeld ⊢
          refine wpAnyH_take (i := 0) (oi := { dst := some 99, op := Op.fieldAddr 26 (Operand.tmp 14) 0, type := 0, pos := "l16_change.go:64", after := #[], guard := none }) (v := ?_) rfl (by kernel_rfl) (by kernel_rfl) (by kernel_rfl) (fun _ _ _ h => h) (Or.inl ⟨by rfl, ?_⟩) (by assumption) ?_
          rotate_left
          · intro w hSw; (try dsimp only at hSw); go_simp <;> with_reducible rfl
          try simp only [Act.put, List.setIfInBounds_toArray, List.set_cons_zero, List.set_cons_succ]
          refine wpAnyH_take (i := 2) (oi := { dst := some 101, op := Op.fieldAddr 26 (Operand.tmp 4) 0, type := 0, pos := "l16_change.go:64", after := #[], guard := none }) (v := ?_) rfl (by kernel_rfl) (by kernel_rfl) (by kernel_rfl) (fun _ _ _ h => h) (Or.inl ⟨by rfl, ?_⟩) (by assumption) ?_
          rotate_left
          · intro w hSw; (try dsimp only at hSw); go_simp <;> with_reducible rfl
          try simp only [Act.put, List.setIfInBounds_toArray, List.set_cons_zero, List.set_cons_succ]
          refine wpAnyH_take (i := 3) (oi := { dst := some 102, op := Op.load 24 (Operand.tmp 101), type := 24, pos := "l16_change.go:64", after := #[{ on := 2, ground := Ground.data }], guard := none }) (v := ?_) rfl (by kernel_rfl) (by kernel_rfl) (by kernel_rfl) (fun _ _ _ h => h) (Or.inl ⟨by rfl, ?_⟩) (by assumption) ?_
          rotate_left
          · intro w hSw; (try dsimp only at hSw); go_simp <;> with_reducible rfl
          try simp only [Act.put, List.setIfInBounds_toArray, List.set_cons_zero, List.set_cons_succ]
          refine wpAnyH_take (i := 4) (oi := { dst := some 103, op := Op.move (Operand.tmp 15), type := 3, pos := "l16_change.go:64", after := #[], guard := none }) (v := ?_) rfl (by kernel_rfl) (by kernel_rfl) (by kernel_rfl) (fun _ _ _ h => h) (Or.inl ⟨by rfl, ?_⟩) (by assumption) ?_
          rotate_left
          · intro w hSw; (try dsimp only at hSw); go_simp <;> with_reducible rfl
          try simp only [Act.put, List.setIfInBounds_toArray, List.set_cons_zero, List.set_cons_succ]
          refine wpAnyH_take (i := 5) (oi := { dst := some 104, op := Op.indexAddr 24 (Operand.tmp 102) (Operand.tmp 103), type := 0, pos := "l16_change.go:64", after := #[{ on := 3, ground := Ground.data }, { on := 4, ground := Ground.data }], guard := none }) (v := ?_) rfl (by kernel_rfl) (by kernel_rfl) (by kernel_rfl) (fun _ _ _ h => h) (Or.inl ⟨by rfl, ?_⟩) (by assumption) ?_
          rotate_left
          · intro w hSw; (try dsimp only at hSw); go_simp <;> with_reducible rfl
          try simp only [Act.put, List.setIfInBounds_toArray, List.set_cons_zero, List.set_cons_succ]
          refine wpAnyH_take (i := 6) (oi := { dst := some 105, op := Op.load 47 (Operand.tmp 104), type := 47, pos := "l16_change.go:64", after := #[{ on := 5, ground := Ground.data }], guard := none }) (v := .agg (ndC (X i) (A i))) rfl (by kernel_rfl) (by kernel_rfl) (by kernel_rfl) (fun _ _ _ h => h) (yields_node rfl _ rfl b (o + i * 31) rfl (X i) (A i) (fun u hu => hu.2)) (by assumption) ?_
          try simp only [Act.put, List.setIfInBounds_toArray, List.set_cons_zero, List.set_cons_succ]
          refine wpAnyH_ready (rs := [1, 7]) (by kernel_rfl) (by simp) ?_
          refine AllReadyH.cons (o := { dst := some 100, op := Op.load 24 (Operand.tmp 99), type := 24, pos := "l16_change.go:64", after := #[{ on := 0, ground := Ground.data }], guard := none }) rfl (fun K hK => ?_) ?_
          · have cb := row1 (unhide PT1).r14
            go_simp
            refine hK.out _ _ ?_ (fun hHeld => ?_)
            · exact ⟨row1 (unhide PT1).r1, unhide PR _ (unhide PT1).hb⟩
            clear hK K
            try simp only [Act.put, List.setIfInBounds_toArray, List.set_cons_zero, List.set_cons_succ]
            clear cb
            refine wpAnyH_ready (rs := [7]) (by kernel_rfl) (by simp) ?_
            refine AllReadyH.cons (o := { dst := some 106, op := Op.call { callee := Callee.value (Operand.func 31), args := #[Operand.tmp 105], argTypes := #[47] }, type := 47, pos := "l16_change.go:64", after := #[{ on := 6, ground := Ground.data }], guard := none }) rfl (fun K hK => ?_) AllReadyH.nil
            go_simp
            (go_at_call 31; go_fit (unhide EN i hlt _ (unhide PT1).hb); rintro r V1 ⟨s', rfl, hx, hb⟩)
            have SOV := hide (unhide PT1).so
            have lbV := hide (unhide PT1).xo.top
            replace PT1 := hide ((unhide PT1).next hb)
            replace hx := hide hx
            have bC := hide hb
            clear hb
            refine hK.out _ _ ?_ (fun hHeld => ?_)
            · exact ⟨row1 (unhide PT1).r1, unhide PR _ (unhide PT1).hb⟩
            clear hK K
            try simp only [Act.put, List.setIfInBounds_toArray, List.set_cons_zero, List.set_cons_succ]
            refine wpAnyH_ready (rs := [8]) (by kernel_rfl) (by simp) ?_
            refine AllReadyH.cons (o := { dst := some 107, op := Op.buildSlice 24 1 #[(0, Operand.tmp 106)], type := 24, pos := "l16_change.go:64", after := #[{ on := 7, ground := Ground.data }], guard := none }) rfl (fun K hK => ?_) AllReadyH.nil
            refine step_build_node rfl _ rfl (X i) s' rfl ?_
            have PTb := hide ((unhide PT1).next (al1_below V1 (.cells (ndC (X i) s') 47)))
            refine hK.out _ _ ?_ (fun hHeld => ?_)
            · exact ⟨row1 (unhide PTb).r1, unhide PR _ (unhide PTb).hb⟩
            clear hK K
            try simp only [Act.put, List.setIfInBounds_toArray, List.set_cons_zero, List.set_cons_succ]
            refine wpAnyH_ready (rs := [9]) (by kernel_rfl) (by simp) ?_
            refine AllReadyH.cons (o := { dst := some 108, op := Op.call { callee := Callee.builtin Builtin.append, args := #[Operand.tmp 100, Operand.tmp 107], argTypes := #[24, 24] }, type := 24, pos := "l16_change.go:64", after := #[{ on := 1, ground := Ground.data }, { on := 8, ground := Ground.data }, { on := 7, ground := Ground.chain }], guard := none }) rfl (fun K hK => ?_) AllReadyH.nil
            refine step_append_sg rfl _ _ rfl (unhide SOV) (Nat.le_refl _) (unhide lbV) (unhide bC) (unhide hx) (by have := unhide hLm; omega) rfl rfl ?_
            intro p' c' W2 SGn g6
            have PTa := hide ((unhide PTb).addedc (i := i) g6 SGn (by rw [unhide hZi i eik]))
            have r14n := hide ((unhide PTb).so.kind g6 (unhide PTb).r14)
            have HS := hide (show W2.cell? ⟨b1, 0, none⟩ = some (.slice (some ⟨b, o, none⟩) n cp) ∧ Below w.heap.size w W2 from ⟨row1 ((unhide PTb).so.kind g6 (unhide PTb).r1), (unhide PTb).hb.grown g6 (unhide PTb).hb.size (fun q e => by have := ((unhide PTb).so.rowge q e).1; have := (unhide PTb).xo.low; have := (unhide PTb).lx; omega)⟩)
            refine hK.out _ _ ?_ (fun hHeld => ?_)
            · exact ⟨(unhide HS).1, unhide PR _ (unhide HS).2⟩
            clear hK K g6 SGn HS
            try simp only [Act.put, List.setIfInBounds_toArray, List.set_cons_zero, List.set_cons_succ]
            refine wpAnyH_take (i := 10) (oi := { dst := some 109, op := Op.fieldAddr 26 (Operand.tmp 14) 0, type := 0, pos := "l16_change.go:64", after := #[{ on := 0, ground := Ground.phase }, { on := 1, ground := Ground.phase }, { on := 2, ground := Ground.phase }, { on := 3, ground := Ground.phase }, { on := 4, ground := Ground.phase }, { on := 5, ground := Ground.phase }, { on := 6, ground := Ground.phase }, { on := 7, ground := Ground.phase }, { on := 8, ground := Ground.phase }, { on := 9, ground := Ground.phase }], guard := none }) (v := ?_) rfl (by kernel_rfl) (by kernel_rfl) (by kernel_rfl) (fun _ _ _ h => h) (Or.inl ⟨by rfl, ?_⟩) (by assumption) ?_
            rotate_left
            · intro w hSw; (try dsimp only at hSw); go_simp <;> with_reducible rfl
            try simp only [Act.put, List.setIfInBounds_toArray, List.set_cons_zero, List.set_cons_succ]
            refine wpAnyH_ready (rs := [11]) (by kernel_rfl) (by simp) ?_
            refine AllReadyH.cons (o := { dst := none, op := Op.store 24 (Operand.tmp 109) (Operand.tmp 108), type := 0, pos := "l16_change.go:64", after := #[{ on := 10, ground := Ground.data }, { on := 9, ground := Ground.data }, { on := 9, ground := Ground.chain }, { on := 0, ground := Ground.phase }, { on := 1, ground := Ground.phase }, { on := 2, ground := Ground.phase }, { on := 3, ground := Ground.phase }, { on := 4, ground := Ground.phase }, { on := 5, ground := Ground.phase }, { on := 6, ground := Ground.phase }, { on := 7, ground := Ground.phase }, { on := 8, ground := Ground.phase }, { on := 9, ground := Ground.phase }], guard := none }) rfl (fun K hK => ?_) AllReadyH.nil
            have cb := row1 (unhide r14n)
            have fb := frozen_of_row W2 b14 0 _ _ (unhide r14n)
            go_simp
            refine hK.out _ _ ?_ (fun hHeld => ?_)
            · exact ⟨row1 (unhide PTa).r1, unhide PR _ (unhide PTa).hb⟩
            clear hK K
            try simp only [Act.put, List.setIfInBounds_toArray, List.set_cons_zero, List.set_cons_succ]
            clear cb fb r14n
            refine wpAnyH_done (by kernel_rfl) ?_ _
            go_wp2_with fail
            go_meet
            exact ⟨_, rfl, _, _, _, _, PTa⟩
          refine AllReadyH.cons (o := { dst := some 106, op := Op.call { callee := Callee.value (Operand.func 31), args := #[Operand.tmp 105], argTypes := #[47] }, type := 47, pos := "l16_change.go:64", after := #[{ on := 6, ground := Ground.data }], guard := none }) rfl (fun K hK => ?_) ?_
          · go_simp
            (go_at_call 31; go_fit (unhide EN i hlt _ (unhide PT1).hb); rintro r V1 ⟨s', rfl, hx, hb⟩)
            have SOV := hide (unhide PT1).so
            have lbV := hide (unhide PT1).xo.top
            replace PT1 := hide ((unhide PT1).next hb)
            replace hx := hide hx
            have bC := hide hb
            clear hb
            refine hK.out _ _ ?_ (fun hHeld => ?_)
            · exact ⟨row1 (unhide PT1).r1, unhide PR _ (unhide PT1).hb⟩
            clear hK K
            try simp only [Act.put, List.setIfInBounds_toArray, List.set_cons_zero, List.set_cons_succ]
            refine wpAnyH_ready (rs := [1, 8]) (by kernel_rfl) (by simp) ?_
            refine AllReadyH.cons (o := { dst := some 100, op := Op.load 24 (Operand.tmp 99), type := 24, pos := "l16_change.go:64", after := #[{ on := 0, ground := Ground.data }], guard := none }) rfl (fun K hK => ?_) ?_
            · have cb := row1 (unhide PT1).r14
              go_simp
              refine hK.out _ _ ?_ (fun hHeld => ?_)
              · exact ⟨row1 (unhide PT1).r1, unhide PR _ (unhide PT1).hb⟩
              clear hK K
              try simp only [Act.put, List.setIfInBounds_toArray, List.set_cons_zero, List.set_cons_succ]
              clear cb
              refine wpAnyH_ready (rs := [8]) (by kernel_rfl) (by simp) ?_
              refine AllReadyH.cons (o := { dst := some 107, op := Op.buildSlice 24 1 #[(0, Operand.tmp 106)], type := 24, pos := "l16_change.go:64", after := #[{ on := 7, ground := Ground.data }], guard := none }) rfl (fun K hK => ?_) AllReadyH.nil
              refine step_build_node rfl _ rfl (X i) s' rfl ?_
              have PTb := hide ((unhide PT1).next (al1_below V1 (.cells (ndC (X i) s') 47)))
              refine hK.out _ _ ?_ (fun hHeld => ?_)
              · exact ⟨row1 (unhide PTb).r1, unhide PR _ (unhide PTb).hb⟩
              clear hK K
              try simp only [Act.put, List.setIfInBounds_toArray, List.set_cons_zero, List.set_cons_succ]
              refine wpAnyH_ready (rs := [9]) (by kernel_rfl) (by simp) ?_
              refine AllReadyH.cons (o := { dst := some 108, op := Op.call { callee := Callee.builtin Builtin.append, args := #[Operand.tmp 100, Operand.tmp 107], argTypes := #[24, 24] }, type := 24, pos := "l16_change.go:64", after := #[{ on := 1, ground := Ground.data }, { on := 8, ground := Ground.data }, { on := 7, ground := Ground.chain }], guard := none }) rfl (fun K hK => ?_) AllReadyH.nil
              refine step_append_sg rfl _ _ rfl (unhide SOV) (Nat.le_refl _) (unhide lbV) (unhide bC) (unhide hx) (by have := unhide hLm; omega) rfl rfl ?_
              intro p' c' W2 SGn g6
              have PTa := hide ((unhide PTb).addedc (i := i) g6 SGn (by rw [unhide hZi i eik]))
              have r14n := hide ((unhide PTb).so.kind g6 (unhide PTb).r14)
              have HS := hide (show W2.cell? ⟨b1, 0, none⟩ = some (.slice (some ⟨b, o, none⟩) n cp) ∧ Below w.heap.size w W2 from ⟨row1 ((unhide PTb).so.kind g6 (unhide PTb).r1), (unhide PTb).hb.grown g6 (unhide PTb).hb.size (fun q e => by have := ((unhide PTb).so.rowge q e).1; have := (unhide PTb).xo.low; have := (unhide PTb).lx; omega)⟩)
              refine hK.out _ _ ?_ (fun hHeld => ?_)
              · exact ⟨(unhide HS).1, unhide PR _ (unhide HS).2⟩
              clear hK K g6 SGn HS
              try simp only [Act.put, List.setIfInBounds_toArray, List.set_cons_zero, List.set_cons_succ]
              refine wpAnyH_take (i := 10) (oi := { dst := some 109, op := Op.fieldAddr 26 (Operand.tmp 14) 0, type := 0, pos := "l16_change.go:64", after := #[{ on := 0, ground := Ground.phase }, { on := 1, ground := Ground.phase }, { on := 2, ground := Ground.phase }, { on := 3, ground := Ground.phase }, { on := 4, ground := Ground.phase }, { on := 5, ground := Ground.phase }, { on := 6, ground := Ground.phase }, { on := 7, ground := Ground.phase }, { on := 8, ground := Ground.phase }, { on := 9, ground := Ground.phase }], guard := none }) (v := ?_) rfl (by kernel_rfl) (by kernel_rfl) (by kernel_rfl) (fun _ _ _ h => h) (Or.inl ⟨by rfl, ?_⟩) (by assumption) ?_
              rotate_left
              · intro w hSw; (try dsimp only at hSw); go_simp <;> with_reducible rfl
              try simp only [Act.put, List.setIfInBounds_toArray, List.set_cons_zero, List.set_cons_succ]
              refine wpAnyH_ready (rs := [11]) (by kernel_rfl) (by simp) ?_
              refine AllReadyH.cons (o := { dst := none, op := Op.store 24 (Operand.tmp 109) (Operand.tmp 108), type := 0, pos := "l16_change.go:64", after := #[{ on := 10, ground := Ground.data }, { on := 9, ground := Ground.data }, { on := 9, ground := Ground.chain }, { on := 0, ground := Ground.phase }, { on := 1, ground := Ground.phase }, { on := 2, ground := Ground.phase }, { on := 3, ground := Ground.phase }, { on := 4, ground := Ground.phase }, { on := 5, ground := Ground.phase }, { on := 6, ground := Ground.phase }, { on := 7, ground := Ground.phase }, { on := 8, ground := Ground.phase }, { on := 9, ground := Ground.phase }], guard := none }) rfl (fun K hK => ?_) AllReadyH.nil
              have cb := row1 (unhide r14n)
              have fb := frozen_of_row W2 b14 0 _ _ (unhide r14n)
              go_simp
              refine hK.out _ _ ?_ (fun hHeld => ?_)
              · exact ⟨row1 (unhide PTa).r1, unhide PR _ (unhide PTa).hb⟩
              clear hK K
              try simp only [Act.put, List.setIfInBounds_toArray, List.set_cons_zero, List.set_cons_succ]
              clear cb fb r14n
              refine wpAnyH_done (by kernel_rfl) ?_ _
              go_wp2_with fail
              go_meet
              exact ⟨_, rfl, _, _, _, _, PTa⟩
            refine AllReadyH.cons (o := { dst := some 107, op := Op.buildSlice 24 1 #[(0, Operand.tmp 106)], type := 24, pos := "l16_change.go:64", after := #[{ on := 7, ground := Ground.data }], guard := none }) rfl (fun K hK => ?_) ?_
            · refine step_build_node rfl _ rfl (X i) s' rfl ?_
              have PTb := hide ((unhide PT1).next (al1_below V1 (.cells (ndC (X i) s') 47)))
              refine hK.out _ _ ?_ (fun hHeld => ?_)
              · exact ⟨row1 (unhide PTb).r1, unhide PR _ (unhide PTb).hb⟩
              clear hK K
              try simp only [Act.put, List.setIfInBounds_toArray, List.set_cons_zero, List.set_cons_succ]
              refine wpAnyH_ready (rs := [1]) (by kernel_rfl) (by simp) ?_
              refine AllReadyH.cons (o := { dst := some 100, op := Op.load 24 (Operand.tmp 99), type := 24, pos := "l16_change.go:64", after := #[{ on := 0, ground := Ground.data }], guard := none }) rfl (fun K hK => ?_) AllReadyH.nil
              have cb := row1 (unhide PTb).r14
              go_simp
              refine hK.out _ _ ?_ (fun hHeld => ?_)
              · exact ⟨row1 (unhide PTb).r1, unhide PR _ (unhide PTb).hb⟩
              clear hK K
              try simp only [Act.put, List.setIfInBounds_toArray, List.set_cons_zero, List.set_cons_succ]
              clear cb
              refine wpAnyH_ready (rs := [9]) (by kernel_rfl) (by simp) ?_
              refine AllReadyH.cons (o := { dst := some 108, op := Op.call { callee := Callee.builtin Builtin.append, args := #[Operand.tmp 100, Operand.tmp 107], argTypes := #[24, 24] }, type := 24, pos := "l16_change.go:64", after := #[{ on := 1, ground := Ground.data }, { on := 8, ground := Ground.data }, { on := 7, ground := Ground.chain }], guard := none }) rfl (fun K hK => ?_) AllReadyH.nil
              refine step_append_sg rfl _ _ rfl (unhide SOV) (Nat.le_refl _) (unhide lbV) (unhide bC) (unhide hx) (by have := unhide hLm; omega) rfl rfl ?_
              intro p' c' W2 SGn g6
              have PTa := hide ((unhide PTb).addedc (i := i) g6 SGn (by rw [unhide hZi i eik]))
              have r14n := hide ((unhide PTb).so.kind g6 (unhide PTb).r14)
              have HS := hide (show W2.cell? ⟨b1, 0, none⟩ = some (.slice (some ⟨b, o, none⟩) n cp) ∧ Below w.heap.size w W2 from ⟨row1 ((unhide PTb).so.kind g6 (unhide PTb).r1), (unhide PTb).hb.grown g6 (unhide PTb).hb.size (fun q e => by have := ((unhide PTb).so.rowge q e).1; have := (unhide PTb).xo.low; have := (unhide PTb).lx; omega)⟩)
              refine hK.out _ _ ?_ (fun hHeld => ?_)
              · exact ⟨(unhide HS).1, unhide PR _ (unhide HS).2⟩
              clear hK K g6 SGn HS
              try simp only [Act.put, List.setIfInBounds_toArray, List.set_cons_zero, List.set_cons_succ]
              refine wpAnyH_take (i := 10) (oi := { dst := some 109, op := Op.fieldAddr 26 (Operand.tmp 14) 0, type := 0, pos := "l16_change.go:64", after := #[{ on := 0, ground := Ground.phase }, { on := 1, ground := Ground.phase }, { on := 2, ground := Ground.phase }, { on := 3, ground := Ground.phase }, { on := 4, ground := Ground.phase }, { on := 5, ground := Ground.phase }, { on := 6, ground := Ground.phase }, { on := 7, ground := Ground.phase }, { on := 8, ground := Ground.phase }, { on := 9, ground := Ground.phase }], guard := none }) (v := ?_) rfl (by kernel_rfl) (by kernel_rfl) (by kernel_rfl) (fun _ _ _ h => h) (Or.inl ⟨by rfl, ?_⟩) (by assumption) ?_
              rotate_left
              · intro w hSw; (try dsimp only at hSw); go_simp <;> with_reducible rfl
              try simp only [Act.put, List.setIfInBounds_toArray, List.set_cons_zero, List.set_cons_succ]
              refine wpAnyH_ready (rs := [11]) (by kernel_rfl) (by simp) ?_
              refine AllReadyH.cons (o := { dst := none, op := Op.store 24 (Operand.tmp 109) (Operand.tmp 108), type := 0, pos := "l16_change.go:64", after := #[{ on := 10, ground := Ground.data }, { on := 9, ground := Ground.data }, { on := 9, ground := Ground.chain }, { on := 0, ground := Ground.phase }, { on := 1, ground := Ground.phase }, { on := 2, ground := Ground.phase }, { on := 3, ground := Ground.phase }, { on := 4, ground := Ground.phase }, { on := 5, ground := Ground.phase }, { on := 6, ground := Ground.phase }, { on := 7, ground := Ground.phase }, { on := 8, ground := Ground.phase }, { on := 9, ground := Ground.phase }], guard := none }) rfl (fun K hK => ?_) AllReadyH.nil
              have cb := row1 (unhide r14n)
              have fb := frozen_of_row W2 b14 0 _ _ (unhide r14n)
              go_simp
              refine hK.out _ _ ?_ (fun hHeld => ?_)
              · exact ⟨row1 (unhide PTa).r1, unhide PR _ (unhide PTa).hb⟩
              clear hK K
              try simp only [Act.put, List.setIfInBounds_toArray, List.set_cons_zero, List.set_cons_succ]
              clear cb fb r14n
              refine wpAnyH_done (by kernel_rfl) ?_ _
              go_wp2_with fail
              go_meet
              exact ⟨_, rfl, _, _, _, _, PTa⟩
            exact AllReadyH.nil
          exact AllReadyH.nil
        case rest =>
        clear PTi
        obtain ⟨WR, hWR, bs, po, co, Ao, PTj⟩ := hcut
        subst hWR
        obtain ⟨L1, hL1⟩ : ∃ l, Hid (ordS X k beh i ++ [i] = l) := ⟨_, rfl⟩
        rw [unhide hL1] at PTj
        have ci : WR.cell? ⟨b, o + i * 31, none⟩ = some (.int .i64 (X i).id) := unhide PR _ (unhide PTj).hb 0 _ rfl
        have c0 := row1 (unhide PTj).r1
        by_cases hid : (X i).id = beh
        · have hb0 : beh ≠ 0 := by have := (node_ids (okAt_iff.1 ((unhide hS').2 i hlt)).1).1; omega
          have h9 : (beh != 0) = true := bne_iff_ne.2 hb0
          have h8 : ((X i).id == beh) = true := beq_iff_eq.2 hid
          have hnot : ¬ k ∈ ordS X k beh i := fun h => (ord_k h).elim hb0 (fun ⟨j, hj, e⟩ => absurd ((unhide hS').uniq j i (by omega) hlt (e.trans hid.symm)) (by omega))
          have eo : ordS X k beh (i + 1) = L1 ++ [k] := by rw [← unhide hL1]; show ordS X k beh i ++ ((if i = k then [] else [i]) ++ (if (X i).id = beh ∧ beh ≠ 0 then [k] else [])) = _; rw [if_neg eik, if_pos ⟨hid, hb0⟩]; simp
          have hLn : (L1).length ≤ 1048576 := by have := unhide hLm; rw [← unhide hL1, List.length_append, List.length_singleton]; omega
          have hnot' := hide hnot
          replace eo := hide eo
          obtain ⟨zi, hzi⟩ : ∃ z, Hid ((X i).id = z) := ⟨_, rfl⟩
          rw [unhide hzi] at ci h8
          clear hid hb0 hnot
          obtain ⟨_, q13, hxg, q13l, hx8⟩ := (unhide PTj).xo.yet (unhide hnot')
          have hxg' := hide hxg
          have q13' := hide q13
          have hx8' := hide (show ∀ l, l < 5 → ∀ q, (lvl xp sx l).ownBlock = some q → q < _ from hx8)
          have c14 := row1 (unhide PTj).r14
          have q13l' := hide q13l
          clear hxg q13 hx8 q13l
          go_wp2_with (first | with_reducible refine load_own rfl _ rfl b13 rfl xp sx 47 (unhide q13') ?_ | with_reducible refine wpList_build_nd rfl _ rfl xp sx rfl ?_ | (with_reducible refine at_append _ _ rfl ?_; refine wpList_append_low rfl _ _ rfl (unhide PTj).so (unhide PTj).xo.top (unhide hxg') (unhide PTj).xo.low (fun l hl q e => by have h1 := unhide hx8' l hl q e; have h2 := (unhide PTj).xo.yet (unhide hnot'); have h3 := (unhide PTj).lx; omega) hLn rfl rfl ?_; intro p' c' W2 SGn g6; have r14n := hide (((unhide PTj).so.alloc (.cells (ndC xp sx) 47)).kind g6 (old_row _ (unhide PTj).r14)); have c14n := row1 (unhide r14n); have f14n := frozen_of_row W2 b14 0 _ _ (unhide r14n); clear c14))
          have PTn := hide ((unhide PTj).lowed (pl' := k ∈ ordS X k beh (i + 1)) g6 SGn (unhide hZk) (by rw [unhide eo]; simp))
          rw [← unhide eo] at PTn
          go_roundw
          case rel => exact ⟨i + 1, by omega, by go_num, _, rfl, _, _, _, _, PTn⟩
          case measure => simp [intOf]; omega
        · have h8 : ((X i).id == beh) = false := beq_eq_false_iff_ne.2 hid
          have eo : ordS X k beh (i + 1) = L1 := by rw [← unhide hL1]; show ordS X k beh i ++ ((if i = k then [] else [i]) ++ (if (X i).id = beh ∧ beh ≠ 0 then [k] else [])) = _; rw [if_neg eik, if_neg (fun h => hid h.1)]; simp
          have PTn := hide ((unhide PTj).same (pl' := k ∈ ordS X k beh (i + 1)) eo.symm (fun h h2 => h (by rw [eo]; rw [← unhide hL1]; exact List.mem_append_left _ h2)))
          obtain ⟨zi, hzi⟩ : ∃ z, Hid ((X i).id = z) := ⟨_, rfl⟩
          rw [unhide hzi] at ci h8
          clear hid eo
          go_wp2_with fail
          go_roundw
          case rel => exact ⟨i + 1, by omega, by go_num, _, rfl, _, _, _, _, PTn⟩
          case measure => simp [intOf]; omega
    · obtain rfl : i = n := by omega
      have hki : ¬ (i : Int) < (i : Int) := by omega
      have PTe := hide (unhide PTi)
      rw [unhide hLo] at PTe
      have hlen := ins_len (k := k) (n := i) (q := q) hk
      have hsZ := hide (show ∀ j, j < i → (pickF Zf (insQ k i q) j).Small from fun j hj => by
        rw [pickF_at _ _ (by rw [hlen]; exact hj)]
        by_cases e : (insQ k i q)[j]'(by rw [hlen]; exact hj) = k
        · rw [e, unhide hZk, ← unhide hxp]; exact par_fit _ _ (unhide hsm k hk)
        · rw [unhide hZi _ e]; exact unhide hsm _ ((ins_mem hk).1 (List.getElem_mem _)))
      have SOe := hide (unhide PTe).so
      have R14e := hide (unhide PTe).r14
      rw [hlen] at SOe R14e
      have F := hide (specSceneOk_any (pickF Zf (insQ k i q)) Ao po i co hn (unhide hsZ) W (unhide SOe).nodes)
      have c0 := row1 (unhide PTi).r1
      have c14 := row1 (unhide R14e)
      go_wp2_with fail
      go_fit (unhide F)
      rintro r uE ⟨rfl, hb⟩
      replace PTe := hide ((unhide PTe).next hb)
      replace SOe := hide (((unhide SOe).next hb).high hb.size)
      replace R14e := hide (row_next hb (unhide R14e))
      have R4 := hide (unhide PTe).r4
      have R6 := hide (unhide PTe).r6
      have HB := hide (unhide PTe).hb
      have SGk := hide (unhide PTe).sk
      have lT := hide (show b6 ≤ uE.heap.size from Nat.le_of_lt (heap_lt (unhide R6)))
      clear hb c0 c14 F
      rw [unhide hYo] at hC1
      cases hoks : sceneOkB (pickF Zf (insQ k i q)) i with
      | false =>
        have hM0 := hide (place_no (X := X) (n := i) (id := id) (par := par) (beh := beh) (c := 5) (by rw [unhide hC1, hoks]; rfl) (by decide))
        clear hoks
        have c6 := row1 (unhide R6)
        have c4 := row1 (unhide R4)
        have f4 := frozen_of_row _ b4 0 _ _ (unhide R4)
        have n6 : ¬ b4 = b6 := by have := unhide lR; omega
        go_wp2_with fail
        exact bodyPost_ret (v := .tuple #[.agg #[.slice p i c], .int .i64 5]) (by simp [results, Tryz.results8, go_sem, c4]) rfl (by obtain ⟨e0, e1⟩ := unhide hM0; rw [e0, e1]; exact ⟨p, c, A', rfl, (sgHigh (((unhide SGk).setk (j := 0) (v := .slice p i c) (unhide R4)).low (unhide lB0)) (by simpa [World.setCell] using unhide lT)), (unhide HB).setCell (p := ⟨b4, 0, none⟩) (by have := unhide lR; dsimp only; omega) _⟩)
      | true =>
        have hM0 := hide (show placeC X i id par beh = 0 by rw [unhide hC1, hoks]; rfl)
        clear hoks
        have c14 := row1 (unhide R14e)
        have c4 := row1 (unhide R4)
        have f4 := frozen_of_row _ b4 0 _ _ (unhide R4)
        have n14 : ¬ b4 = b14 := by have := (unhide PTe).lx; omega
        have hbs := hide (show w.heap.size ≤ bs by have := (unhide PTe).lx; have := (unhide PTe).xo.low; omega)
        have h4b := hide (show w.heap.size ≤ b4 by have := unhide lR; omega)
        go_wp2_with fail
        exact bodyPost_ret (v := .tuple #[.agg #[.slice po i co], .int .i64 0]) (by simp [results, Tryz.results8, go_sem, c4]) rfl (by rw [unhide hM0, place_yes (unhide hM0), unhide hYo]; exact ⟨po, co, Ao, rfl, (sgHigh (((unhide SOe).setk (j := 0) (v := .slice po i co) (unhide R4)).low (unhide hbs)) (by simp [World.setCell])), (unhide HB).setCell (p := ⟨b4, 0, none⟩) (unhide h4b) _⟩)
end Go.Proofs.YtdbphpekhmlmdaaGreatDoor
