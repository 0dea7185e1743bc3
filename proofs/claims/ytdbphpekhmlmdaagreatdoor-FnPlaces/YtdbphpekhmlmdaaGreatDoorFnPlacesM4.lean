/-
  CopyJ · StepN · CopyK · SceneK · SceneU · TreesP · UnderZ · StandP · PaintI · PaintJ · PathI · ModeI · NodeI · SceneI · SceneJ: texts of one claim, in one.
-/
import Derived.Test.YtdbphpekhmlmdaaGreatDoorFnPlacesM3
import Derived.Test.YtdbphpekhmlmdaaGreatDoorFnPlacesM2
import Derived.Test.YtdbphpekhmlmdaaGreatDoorFnPlacesM1
import Derived.BigQuiet
import Derived.Maps.OwnSet

/-
  The program's pathCopy, nodeCopy.
-/
namespace Go.Proofs.YtdbphpekhmlmdaaGreatDoor
open Go.RowKit
set_option linter.unusedVariables false

/-- Lists of one's own that hold these numbers, these points. -/
def OwnI (w : World) (base : Nat) (v : Value) (n : Nat) (f : Nat → Int) : Prop := ∃ xs, w.ownsRow base 3 1 v n xs ∧ IxAt xs f n
def OwnP (w : World) (base : Nat) (v : Value) (n : Nat) (f : Nat → Int × Int) : Prop := ∃ xs, w.ownsRow base 43 2 v n xs ∧ PxAt xs f n
theorem OwnI.next {w u : World} {base n : Nat} {v : Value} {f : Nat → Int} (h : OwnI w base v n f) (hb : Below w.heap.size w u) : OwnI u base v n f := let ⟨xs, h1, h2⟩ := h; ⟨xs, own_below h1 hb, h2⟩
theorem OwnP.next {w u : World} {base n : Nat} {v : Value} {f : Nat → Int × Int} (h : OwnP w base v n f) (hb : Below w.heap.size w u) : OwnP u base v n f := let ⟨xs, h1, h2⟩ := h; ⟨xs, own_below h1 hb, h2⟩
theorem OwnI.low {w : World} {base base' n : Nat} {v : Value} {f : Nat → Int} (h : OwnI w base v n f) (hb : base' ≤ base) : OwnI w base' v n f := let ⟨xs, h1, h2⟩ := h; ⟨xs, own_low h1 hb, h2⟩
theorem OwnP.low {w : World} {base base' n : Nat} {v : Value} {f : Nat → Int × Int} (h : OwnP w base v n f) (hb : base' ≤ base) : OwnP w base' v n f := let ⟨xs, h1, h2⟩ := h; ⟨xs, own_low h1 hb, h2⟩
theorem OwnI.setc {w : World} {base n g j : Nat} {v u : Value} {f : Nat → Int} (h : OwnI w base v n f) (hg : g < base) : OwnI (w.setCell ⟨g, j, none⟩ u) base v n f := let ⟨xs, h1, h2⟩ := h; ⟨xs, own_setc h1 hg, h2⟩
theorem OwnP.setc {w : World} {base n g j : Nat} {v u : Value} {f : Nat → Int × Int} (h : OwnP w base v n f) (hg : g < base) : OwnP (w.setCell ⟨g, j, none⟩ u) base v n f := let ⟨xs, h1, h2⟩ := h; ⟨xs, own_setc h1 hg, h2⟩
theorem OwnI.setRow {w : World} {base n g : Nat} {v : Value} {cs : Array Value} {f : Nat → Int} (h : OwnI w base v n f) (hg : g < base) : OwnI (w.setRow g cs) base v n f := let ⟨xs, h1, h2⟩ := h; ⟨xs, own_setRow h1 (fun k e => by have := (h1.lt k e).1; omega), h2⟩
theorem OwnP.setRow {w : World} {base n g : Nat} {v : Value} {cs : Array Value} {f : Nat → Int × Int} (h : OwnP w base v n f) (hg : g < base) : OwnP (w.setRow g cs) base v n f := let ⟨xs, h1, h2⟩ := h; ⟨xs, own_setRow h1 (fun k e => by have := (h1.lt k e).1; omega), h2⟩
theorem OwnI.lt {w : World} {base n : Nat} {v : Value} {f : Nat → Int} (h : OwnI w base v n f) : ∀ k, v.ownBlock = some k → base ≤ k ∧ k < w.heap.size := let ⟨_, h1, _⟩ := h; h1.lt
theorem OwnP.lt {w : World} {base n : Nat} {v : Value} {f : Nat → Int × Int} (h : OwnP w base v n f) : ∀ k, v.ownBlock = some k → base ≤ k ∧ k < w.heap.size := let ⟨_, h1, _⟩ := h; h1.lt
theorem OwnI.kind {w : World} {base base' n m : Nat} {v v' : Value} {f : Nat → Int} {g : Nat → Int × Int} (h : OwnI w base v n f) (h' : OwnP w base' v' m g) : ∀ k, v.ownBlock = some k → v'.ownBlock ≠ some k := let ⟨_, h1, _⟩ := h; let ⟨_, h2, _⟩ := h'; own_kind h1 h2 (by decide)

set_option maxHeartbeats 8000000 in
set_option maxRecDepth 100000 in
theorem implPathCopy_any (vf : Nat → Int) (pf : Nat → Int × Int) (ao bo : Option Addr) (n c m d : Nat) (hn : n ≤ 1048576) (hm : m ≤ 1048576) (hc : n ≤ c ∧ (ao = none → c = 0)) (hd : m ≤ d ∧ (bo = none → d = 0)) (w : World)
    (V : ∀ i, i < n → IntAt w ao i (vf i)) (P : ∀ i, i < m → PtArg w bo i (pf i)) :
    Calls Tryz.prog 86 #[.agg #[.slice ao n c, .slice bo m d]] w fun r w' => ∃ a' c' b' d', r = .returned (.agg #[.slice a' n c', .slice b' m d']) ∧ OwnI w' w.heap.size (.slice a' n c') n vf ∧ OwnP w' w.heap.size (.slice b' m d') m pf ∧ Below w.heap.size w w' := by
  have EI := hide (fun u (hu : Below w.heap.size w u) => cloneIs_any vf ao n c hn hc.1 hc.2 u (fun i hi => (V i hi).next hu))
  have EP := hide (fun u (hu : Below w.heap.size w u) => clonePs_any pf bo m d hm hd.1 hd.2 u (fun i hi => (P i hi).next hu))
  clear V P
  go_enter Tryz.func86, Tryz.ntmps86
  go_upto_region 1 with fail
  have R := hide (al2_0 w (.cells #[.slice ao n c, .slice bo m d] 39) (.cells #[.slice none 0 0, .slice none 0 0] 39))
  have R2 := hide (al2_1 w (.cells #[.slice ao n c, .slice bo m d] 39) (.cells #[.slice none 0 0, .slice none 0 0] 39))
  have HB := hide (al2_below w (.cells #[.slice ao n c, .slice bo m d] 39) (.cells #[.slice none 0 0, .slice none 0 0] 39))
  obtain ⟨b2, hb2⟩ : ∃ b, Hid (b = w.heap.size + 1) := ⟨_, rfl⟩
  obtain ⟨b1, hb1⟩ : ∃ b, Hid (b = w.heap.size) := ⟨_, rfl⟩
  have lz : Hid (w.heap.size ≤ b2 ∧ b1 < b2) := by unfold Hid; rw [unhide hb2, unhide hb1]; omega
  rw [← unhide hb2] at R2
  rw [← unhide hb1] at R
  rw [← unhide hb2, ← unhide hb1]
  generalize (w.alloc (.cells #[.slice ao n c, .slice bo m d] 39)).alloc (.cells #[.slice none 0 0, .slice none 0 0] 39) = W at R R2 HB ⊢
  clear hb2 hb1
  have l6 := hide (show b2 < W.heap.size from heap_lt (unhide R2))
  have ne1 : ¬ b2 = b1 := by have := unhide lz; omega
  have ne2 : ¬ b1 = b2 := by have := unhide lz; omega
  have k0 := hide (show ∀ u, Below b2 W u → (u.cell? ⟨b1, 0, none⟩ = some (.slice ao n c) ∧ u.cell? ⟨b1, 1, none⟩ = some (.slice bo m d) ∧ Below b2 W u) from fun u h => by
    obtain ⟨c0, c1⟩ := row2 ((h.block b1 (unhide lz).2).trans (unhide R))
    exact ⟨c0, c1, h⟩)
  have k00 := hide (unhide k0 _ (Below.refl _ _).drew)
  have EI0 := hide (fun u (hu : Below W.heap.size W u) => unhide EI u (below_two (unhide HB) hu))
  have EP0 := hide (fun u (hu : Below W.heap.size W u) => unhide EP u (below_two (unhide HB) hu))
  clear EI EP
  go_region_held3 (fun u => u.cell? ⟨b1, 0, none⟩ = some (.slice ao n c) ∧ u.cell? ⟨b1, 1, none⟩ = some (.slice bo m d) ∧ Below b2 W u) ((first | with_reducible exact unhide k00 | (with_reducible refine unhide k0 _ ?_; first | with_reducible assumption | with_reducible exact Below.mono (by assumption) (Nat.le_of_lt (unhide l6)) | (with_reducible refine below_put2 ?_ (Nat.le_refl _) _ _; with_reducible exact Below.mono (by assumption) (Nat.le_of_lt (unhide l6)))))) (first
    | (go_at_call 87; go_fit (unhide EI0 _ hA); rintro r w6 ⟨p6, c6, rfl, hc6, hb6⟩; have hAB := below_two hA hb6; have oI := hide (OwnI.low hc6 hA.size); have oP := hide ((unhide oP0).next hb6); clear hA hb6 hc6 oP0; obtain ⟨e0, e1⟩ := row2 (row_next hAB (unhide R2)); obtain ⟨f0, f1⟩ := free2 (row_next hAB (unhide R2)))
    | (go_at_call 122; go_fit (unhide EP0 _ hA); rintro r w6 ⟨p7, c7, rfl, hc6, hb6⟩; have hAB := below_two hA hb6; have oP := hide (OwnP.low hc6 hA.size); have oI := hide ((unhide oI0).next hb6); clear hA hb6 hc6 oI0; obtain ⟨e0, e1⟩ := row2 (row_next hAB (unhide R2)); obtain ⟨f0, f1⟩ := free2 (row_next hAB (unhide R2)))
    | (go_at_call 87; go_fit (unhide EI0 _ (Below.refl _ _).drew); rintro r w5 ⟨p6, c6, rfl, hc6, hb6⟩; have hA := below_undrew hb6; have oI0 := hide (show OwnI w5 W.heap.size (.slice p6 n c6) n vf from hc6); clear hb6 hc6)
    | (go_at_call 122; go_fit (unhide EP0 _ (Below.refl _ _).drew); rintro r w5 ⟨p7, c7, rfl, hc6, hb6⟩; have hA := below_undrew hb6; have oP0 := hide (show OwnP w5 W.heap.size (.slice p7 m c7) m pf from hc6); clear hb6 hc6))
  all_goals
    go_wp2_with fail
    refine bodyPost_ret (v := .agg #[.slice p6 n c6, .slice p7 m c7]) (by simp [results, Tryz.results86, go_sem, e0, e1]) rfl ⟨p6, c6, p7, c7, rfl, ?_, ?_, ?_⟩
    · exact (((unhide oI).setc (unhide l6)).setc (unhide l6)).low (unhide HB).size
    · exact (((unhide oP).setc (unhide l6)).setc (unhide l6)).low (unhide HB).size
    · exact below_put2 (below_two (unhide HB) hAB) (unhide lz).1 _ _

theorem ndC_set9 (x : Nd) (s : Na) (a : Option Addr) (c : Nat) : (ndC x s).setIfInBounds 9 (.slice a x.nv c) = ndC x { s with av := a, cv := c } := by unfold ndC; simp only [List.setIfInBounds_toArray, List.set_cons_zero, List.set_cons_succ]
theorem ndC_set10 (x : Nd) (s : Na) (a : Option Addr) (c : Nat) : (ndC x s).setIfInBounds 10 (.slice a x.np c) = ndC x { s with ap := a, cp := c } := by unfold ndC; simp only [List.setIfInBounds_toArray, List.set_cons_zero, List.set_cons_succ]
theorem ndC_set13 (x : Nd) (s : Na) (a : Option Addr) (c : Nat) : (ndC x s).setIfInBounds 13 (.slice a x.nd c) = ndC x { s with ad := a, cd := c } := by unfold ndC; simp only [List.setIfInBounds_toArray, List.set_cons_zero, List.set_cons_succ]
theorem ndC_set29 (x : Nd) (s : Na) (a : Option Addr) (c : Nat) : (ndC x s).setIfInBounds 29 (.slice a x.mv c) = ndC x { s with bv := a, dv := c } := by unfold ndC; simp only [List.setIfInBounds_toArray, List.set_cons_zero, List.set_cons_succ]
theorem ndC_set30 (x : Nd) (s : Na) (a : Option Addr) (c : Nat) : (ndC x s).setIfInBounds 30 (.slice a x.mp c) = ndC x { s with bp := a, dp := c } := by unfold ndC; simp only [List.setIfInBounds_toArray, List.set_cons_zero, List.set_cons_succ]
/-- A node whose lists are one's own and lie apart. -/
structure NdG (w : World) (base : Nat) (x : Nd) (s : Na) : Prop where
  own : ∀ l, l < 5 → OwnL w base x s l
  inj : ∀ l m, l < 5 → m < 5 → ∀ k, (lvl x s l).ownBlock = some k → (lvl x s m).ownBlock = some k → l = m
theorem NdG.next {w u : World} {base : Nat} {x : Nd} {s : Na} (h : NdG w base x s) (hb : Below w.heap.size w u) : NdG u base x s := ⟨fun l hl => (h.own l hl).next hb, h.inj⟩
theorem NdG.low {w : World} {base base' : Nat} {x : Nd} {s : Na} (h : NdG w base x s) (hb : base' ≤ base) : NdG w base' x s := ⟨fun l hl => (h.own l hl).low hb, h.inj⟩
theorem OwnL.setRow {w : World} {base g : Nat} {cs : Array Value} {x : Nd} {s : Na} {l : Nat} (h : OwnL w base x s l) (hg : ∀ k, (lvl x s l).ownBlock = some k → k ≠ g) : OwnL (w.setRow g cs) base x s l := let ⟨xs, h1, h2⟩ := h; ⟨xs, own_setRow h1 hg, h2⟩
theorem NdG.setRow {w : World} {base g : Nat} {cs : Array Value} {x : Nd} {s : Na} (h : NdG w base x s) (hg : g < base) : NdG (w.setRow g cs) base x s := ⟨fun l hl => (h.own l hl).setRow (fun k e => by have := ((h.own l hl).lt k e).1; omega), h.inj⟩
/-- Five lists, made one behind the other. -/
theorem ndG_of {w : World} {b0 b1 b2 b3 : Nat} {x : Nd} {s : Na} (h0 : OwnI w b0 (.slice s.av x.nv s.cv) x.nv x.vf) (h1 : OwnP w b0 (.slice s.ap x.np s.cp) x.np x.pf) (h2 : OwnI w b1 (.slice s.ad x.nd s.cd) x.nd x.df) (h3 : OwnI w b2 (.slice s.bv x.mv s.dv) x.mv x.wf) (h4 : OwnP w b2 (.slice s.bp x.mp s.dp) x.mp x.qf)
    (hlt : (∀ k, (Value.slice s.av x.nv s.cv).ownBlock = some k → k < b1 ∧ k < b2) ∧ (∀ k, (Value.slice s.ap x.np s.cp).ownBlock = some k → k < b1 ∧ k < b2) ∧ (∀ k, (Value.slice s.ad x.nd s.cd).ownBlock = some k → k < b2 ∨ b3 ≤ k) ∧ (∀ k, (Value.slice s.bv x.mv s.dv).ownBlock = some k → k < b3) ∧ (∀ k, (Value.slice s.bp x.mp s.dp).ownBlock = some k → k < b3))
    (hb : b0 ≤ b1 ∧ b0 ≤ b2) : NdG w b0 x s := by
  obtain ⟨l0, l1, l2, l3, l4⟩ := hlt
  have k01 := h0.kind h1
  have k21 := h2.kind h1
  have k31 := h3.kind h1
  have k04 := h0.kind h4
  have k24 := h2.kind h4
  have k34 := h3.kind h4
  have g2 := h2.lt
  have g3 := h3.lt
  have g4 := h4.lt
  refine ⟨fun l hl => ?_, fun l m hl hm k e1 e2 => ?_⟩
  · rcases l with _ | _ | _ | _ | _ | l
    · exact h0
    · exact h1
    · exact h2.low hb.1
    · exact h3.low hb.2
    · exact h4.low hb.2
    · omega
  · rcases l with _ | _ | _ | _ | _ | l <;> rcases m with _ | _ | _ | _ | _ | m <;> first | rfl | omega | (exfalso; simp only [lvl] at e1 e2; first
      | exact k01 k e1 e2 | exact k01 k e2 e1 | exact k21 k e1 e2 | exact k21 k e2 e1 | exact k31 k e1 e2 | exact k31 k e2 e1 | exact k04 k e1 e2 | exact k04 k e2 e1 | exact k24 k e1 e2 | exact k24 k e2 e1 | exact k34 k e1 e2 | exact k34 k e2 e1
      | (have a1 := l0 k e1; have a2 := g2 k e2; omega) | (have a1 := l0 k e2; have a2 := g2 k e1; omega)
      | (have a1 := l0 k e1; have a2 := g3 k e2; omega) | (have a1 := l0 k e2; have a2 := g3 k e1; omega)
      | (have a1 := l1 k e1; have a2 := g4 k e2; omega) | (have a1 := l1 k e2; have a2 := g4 k e1; omega)
      | (have a1 := l2 k e1; have a2 := g3 k e2; have a3 := l3 k e2; omega) | (have a1 := l2 k e2; have a2 := g3 k e1; have a3 := l3 k e1; omega))

set_option maxHeartbeats 8000000 in
set_option maxRecDepth 100000 in
theorem implNodeCopy_any (x : Nd) (s : Na) (hs : x.Small) (hc : Caps x s) (w : World) (h : NdIn w x s) :
    Calls Tryz.prog 52 #[.agg (ndC x s)] w fun r w' => ∃ s', r = .returned (.agg (ndC x s')) ∧ NdG w' w.heap.size x s' ∧ Below w.heap.size w w' := by
  have E1 := hide (fun u (hu : Below w.heap.size w u) => implPathCopy_any x.vf x.pf s.av s.ap x.nv s.cv x.np s.cp hs.nv hs.np hc.v hc.p u (h.next hu).v (h.next hu).p)
  have E2 := hide (fun u (hu : Below w.heap.size w u) => cloneIs_any x.df s.ad x.nd s.cd hs.nd hc.d.1 hc.d.2 u (h.next hu).d)
  have E3 := hide (fun u (hu : Below w.heap.size w u) => implPathCopy_any x.wf x.qf s.bv s.bp x.mv s.dv x.mp s.dp hs.mv hs.mp hc.cv hc.cp u (h.next hu).cv (h.next hu).cp)
  clear hs hc h
  go_enter Tryz.func52, Tryz.ntmps52
  go_upto_region 1 with fail
  have R := hide (al2_0 w (.cells (ndC x s) 47) (.cells #[.int .i64 0, .int .i64 0, .bool false, .int .i64 0, .int .i64 0, .int .i64 0, .int .i64 0, .int .i64 0, .int .i64 0, .slice none 0 0, .slice none 0 0, .bool false, .int .i64 0, .slice none 0 0, .int .i64 0, .int .i64 0, .int .i64 0, .int .i64 0, .int .i64 0, .int .i64 0, .int .i64 0, .int .i64 0, .int .i64 0, .int .i64 0, .int .i64 0, .int .i64 0, .int .i64 0, .int .i64 0, .int .i64 0, .slice none 0 0, .slice none 0 0] 47))
  have R2 := hide (al2_1 w (.cells (ndC x s) 47) (.cells #[.int .i64 0, .int .i64 0, .bool false, .int .i64 0, .int .i64 0, .int .i64 0, .int .i64 0, .int .i64 0, .int .i64 0, .slice none 0 0, .slice none 0 0, .bool false, .int .i64 0, .slice none 0 0, .int .i64 0, .int .i64 0, .int .i64 0, .int .i64 0, .int .i64 0, .int .i64 0, .int .i64 0, .int .i64 0, .int .i64 0, .int .i64 0, .int .i64 0, .int .i64 0, .int .i64 0, .int .i64 0, .int .i64 0, .slice none 0 0, .slice none 0 0] 47))
  have HB := hide (al2_below w (.cells (ndC x s) 47) (.cells #[.int .i64 0, .int .i64 0, .bool false, .int .i64 0, .int .i64 0, .int .i64 0, .int .i64 0, .int .i64 0, .int .i64 0, .slice none 0 0, .slice none 0 0, .bool false, .int .i64 0, .slice none 0 0, .int .i64 0, .int .i64 0, .int .i64 0, .int .i64 0, .int .i64 0, .int .i64 0, .int .i64 0, .int .i64 0, .int .i64 0, .int .i64 0, .int .i64 0, .int .i64 0, .int .i64 0, .int .i64 0, .int .i64 0, .slice none 0 0, .slice none 0 0] 47))
  obtain ⟨b2, hb2⟩ : ∃ b, Hid (b = w.heap.size + 1) := ⟨_, rfl⟩
  obtain ⟨b1, hb1⟩ : ∃ b, Hid (b = w.heap.size) := ⟨_, rfl⟩
  have lz : Hid (w.heap.size ≤ b1 ∧ w.heap.size ≤ b2 ∧ b1 < b2) := by unfold Hid; rw [unhide hb2, unhide hb1]; omega
  rw [← unhide hb2] at R2
  rw [← unhide hb1] at R
  rw [← unhide hb2, ← unhide hb1]
  generalize (w.alloc (.cells (ndC x s) 47)).alloc (.cells #[.int .i64 0, .int .i64 0, .bool false, .int .i64 0, .int .i64 0, .int .i64 0, .int .i64 0, .int .i64 0, .int .i64 0, .slice none 0 0, .slice none 0 0, .bool false, .int .i64 0, .slice none 0 0, .int .i64 0, .int .i64 0, .int .i64 0, .int .i64 0, .int .i64 0, .int .i64 0, .int .i64 0, .int .i64 0, .int .i64 0, .int .i64 0, .int .i64 0, .int .i64 0, .int .i64 0, .int .i64 0, .int .i64 0, .slice none 0 0, .slice none 0 0] 47) = W at R R2 HB ⊢
  clear hb2 hb1
  obtain ⟨C, hC⟩ : ∃ C : Array Value, Hid (#[.int .i64 0, .int .i64 0, .bool false, .int .i64 0, .int .i64 0, .int .i64 0, .int .i64 0, .int .i64 0, .int .i64 0, .slice none 0 0, .slice none 0 0, .bool false, .int .i64 0, .slice none 0 0, .int .i64 0, .int .i64 0, .int .i64 0, .int .i64 0, .int .i64 0, .int .i64 0, .int .i64 0, .int .i64 0, .int .i64 0, .int .i64 0, .int .i64 0, .int .i64 0, .int .i64 0, .int .i64 0, .int .i64 0, .slice none 0 0, .slice none 0 0] = C) := ⟨_, rfl⟩
  rw [unhide hC] at R2
  have hz := hide (show C.size = 31 by rw [← unhide hC]; rfl)
  clear hC
  have l1 := hide (show b1 < W.heap.size from heap_lt (unhide R))
  have l2 := hide (show b2 < W.heap.size from heap_lt (unhide R2))
  -- the path
  obtain ⟨c0, c1, c2, c3, c4, c5, c6, c7, c8, c9, c10, c11, c12, c13, c14, c15, c16, c17, c18, c19, c20, c21, c22, c23, c24, c25, c26, c27, c28, c29, c30⟩ := row31 (unhide R)
  go_wp2_with fail
  go_fit (unhide E1 _ (unhide HB))
  rintro r u1 ⟨a1, d1, a2, d2, rfl, o0, o1, hb⟩
  replace o0 := hide o0
  replace o1 := hide o1
  clear c0 c1 c2 c3 c4 c5 c6 c7 c8 c9 c10 c11 c12 c13 c14 c15 c16 c17 c18 c19 c20 c21 c22 c23 c24 c25 c26 c27 c28 c29 c30
  replace R := hide (row_next hb (unhide R))
  replace R2 := hide (row_next hb (unhide R2))
  replace HB := hide (below_two (unhide HB) hb)
  have s1 := hide (show W.heap.size ≤ u1.heap.size from hb.size)
  clear hb
  obtain ⟨c0, c1, c2, c3, c4, c5, c6, c7, c8, c9, c10, c11, c12, c13, c14, c15, c16, c17, c18, c19, c20, c21, c22, c23, c24, c25, c26, c27, c28, c29, c30⟩ := row31 (unhide R)
  have f9 := frozen_of_row u1 b1 9 _ _ (unhide R)
  have f10 := frozen_of_row u1 b1 10 _ _ (unhide R)
  go_upto_region 2 with fail
  clear c0 c1 c2 c3 c4 c5 c6 c7 c8 c9 c10 c11 c12 c13 c14 c15 c16 c17 c18 c19 c20 c21 c22 c23 c24 c25 c26 c27 c28 c29 c30 f9 f10
  replace R := hide (setC (j := 10) (v := .slice a2 x.np d2) (setC (j := 9) (v := .slice a1 x.nv d1) (unhide R)))
  rw [ndC_set9, ndC_set10] at R
  replace R2 := hide (setc_other (b := b1) (j := 10) (v := .slice a2 x.np d2) (Nat.ne_of_gt (unhide lz).2.2) (setc_other (b := b1) (j := 9) (v := .slice a1 x.nv d1) (Nat.ne_of_gt (unhide lz).2.2) (unhide R2)))
  replace HB := hide (((unhide HB).setCell (p := ⟨b1, 9, none⟩) (unhide lz).1 (.slice a1 x.nv d1)).setCell (p := ⟨b1, 10, none⟩) (unhide lz).1 (.slice a2 x.np d2))
  replace o0 := hide (((unhide o0).setc (j := 9) (u := .slice a1 x.nv d1) (unhide l1)).setc (j := 10) (u := .slice a2 x.np d2) (unhide l1))
  replace o1 := hide (((unhide o1).setc (j := 9) (u := .slice a1 x.nv d1) (unhide l1)).setc (j := 10) (u := .slice a2 x.np d2) (unhide l1))
  replace s1 := hide (show W.heap.size ≤ ((u1.setCell ⟨b1, 9, none⟩ (.slice a1 x.nv d1)).setCell ⟨b1, 10, none⟩ (.slice a2 x.np d2)).heap.size by simpa [World.setCell] using unhide s1)
  generalize (u1.setCell ⟨b1, 9, none⟩ (.slice a1 x.nv d1)).setCell ⟨b1, 10, none⟩ (.slice a2 x.np d2) = U1 at R R2 HB o0 o1 s1 ⊢
  clear u1
  -- the dashes
  obtain ⟨c0, c1, c2, c3, c4, c5, c6, c7, c8, c9, c10, c11, c12, c13, c14, c15, c16, c17, c18, c19, c20, c21, c22, c23, c24, c25, c26, c27, c28, c29, c30⟩ := row31 (unhide R)
  go_wp2_with fail
  go_fit (unhide E2 _ (unhide HB))
  rintro r u2 ⟨a3, d3, rfl, o2, hb⟩
  replace o2 := hide (show OwnI u2 U1.heap.size (.slice a3 x.nd d3) x.nd x.df from o2)
  clear c0 c1 c2 c3 c4 c5 c6 c7 c8 c9 c10 c11 c12 c13 c14 c15 c16 c17 c18 c19 c20 c21 c22 c23 c24 c25 c26 c27 c28 c29 c30
  replace R := hide (row_next hb (unhide R))
  replace R2 := hide (row_next hb (unhide R2))
  replace HB := hide (below_two (unhide HB) hb)
  have q0 := hide (show ∀ k, (Value.slice a1 x.nv d1).ownBlock = some k → k < U1.heap.size from fun k e => ((unhide o0).lt k e).2)
  have q1 := hide (show ∀ k, (Value.slice a2 x.np d2).ownBlock = some k → k < U1.heap.size from fun k e => ((unhide o1).lt k e).2)
  replace o0 := hide ((unhide o0).next hb)
  replace o1 := hide ((unhide o1).next hb)
  have s2 := hide (show U1.heap.size ≤ u2.heap.size from hb.size)
  clear hb
  obtain ⟨c0, c1, c2, c3, c4, c5, c6, c7, c8, c9, c10, c11, c12, c13, c14, c15, c16, c17, c18, c19, c20, c21, c22, c23, c24, c25, c26, c27, c28, c29, c30⟩ := row31 (unhide R)
  have f13 := frozen_of_row u2 b1 13 _ _ (unhide R)
  go_upto_region 3 with fail
  clear c0 c1 c2 c3 c4 c5 c6 c7 c8 c9 c10 c11 c12 c13 c14 c15 c16 c17 c18 c19 c20 c21 c22 c23 c24 c25 c26 c27 c28 c29 c30 f13
  have l3 := hide (show b1 < U1.heap.size from Nat.lt_of_lt_of_le (unhide l1) (unhide s1))
  replace R := hide (setC (j := 13) (v := .slice a3 x.nd d3) (unhide R))
  rw [ndC_set13] at R
  replace R2 := hide (setc_other (b := b1) (j := 13) (v := .slice a3 x.nd d3) (Nat.ne_of_gt (unhide lz).2.2) (unhide R2))
  replace HB := hide ((unhide HB).setCell (p := ⟨b1, 13, none⟩) (unhide lz).1 (.slice a3 x.nd d3))
  replace o0 := hide ((unhide o0).setc (j := 13) (u := .slice a3 x.nd d3) (unhide l1))
  replace o1 := hide ((unhide o1).setc (j := 13) (u := .slice a3 x.nd d3) (unhide l1))
  replace o2 := hide ((unhide o2).setc (j := 13) (u := .slice a3 x.nd d3) (unhide l3))
  replace s2 := hide (show U1.heap.size ≤ (u2.setCell ⟨b1, 13, none⟩ (.slice a3 x.nd d3)).heap.size by simpa [World.setCell] using unhide s2)
  generalize u2.setCell ⟨b1, 13, none⟩ (.slice a3 x.nd d3) = U2 at R R2 HB o0 o1 o2 s2 ⊢
  clear u2
  -- the clip
  obtain ⟨c0, c1, c2, c3, c4, c5, c6, c7, c8, c9, c10, c11, c12, c13, c14, c15, c16, c17, c18, c19, c20, c21, c22, c23, c24, c25, c26, c27, c28, c29, c30⟩ := row31 (unhide R)
  go_wp2_with fail
  go_fit (unhide E3 _ (unhide HB))
  rintro r u3 ⟨a4, d4, a5, d5, rfl, o3, o4, hb⟩
  replace o3 := hide o3
  replace o4 := hide o4
  clear c0 c1 c2 c3 c4 c5 c6 c7 c8 c9 c10 c11 c12 c13 c14 c15 c16 c17 c18 c19 c20 c21 c22 c23 c24 c25 c26 c27 c28 c29 c30
  replace R := hide (row_next hb (unhide R))
  replace R2 := hide (row_next hb (unhide R2))
  replace HB := hide (below_two (unhide HB) hb)
  have q2 := hide (show ∀ k, (Value.slice a3 x.nd d3).ownBlock = some k → k < U2.heap.size from fun k e => ((unhide o2).lt k e).2)
  replace o0 := hide ((unhide o0).next hb)
  replace o1 := hide ((unhide o1).next hb)
  replace o2 := hide ((unhide o2).next hb)
  clear hb
  obtain ⟨c0, c1, c2, c3, c4, c5, c6, c7, c8, c9, c10, c11, c12, c13, c14, c15, c16, c17, c18, c19, c20, c21, c22, c23, c24, c25, c26, c27, c28, c29, c30⟩ := row31 (unhide R)
  have f29 := frozen_of_row u3 b1 29 _ _ (unhide R)
  have f30 := frozen_of_row u3 b1 30 _ _ (unhide R)
  go_upto_region 4 with fail
  clear c0 c1 c2 c3 c4 c5 c6 c7 c8 c9 c10 c11 c12 c13 c14 c15 c16 c17 c18 c19 c20 c21 c22 c23 c24 c25 c26 c27 c28 c29 c30 f29 f30
  have l4 := hide (show b1 < U2.heap.size from Nat.lt_of_lt_of_le (unhide l3) (unhide s2))
  replace R := hide (setC (j := 30) (v := .slice a5 x.mp d5) (setC (j := 29) (v := .slice a4 x.mv d4) (unhide R)))
  rw [ndC_set29, ndC_set30] at R
  replace R2 := hide (setc_other (b := b1) (j := 30) (v := .slice a5 x.mp d5) (Nat.ne_of_gt (unhide lz).2.2) (setc_other (b := b1) (j := 29) (v := .slice a4 x.mv d4) (Nat.ne_of_gt (unhide lz).2.2) (unhide R2)))
  replace HB := hide (((unhide HB).setCell (p := ⟨b1, 29, none⟩) (unhide lz).1 (.slice a4 x.mv d4)).setCell (p := ⟨b1, 30, none⟩) (unhide lz).1 (.slice a5 x.mp d5))
  replace o0 := hide (((unhide o0).setc (j := 29) (u := .slice a4 x.mv d4) (unhide l1)).setc (j := 30) (u := .slice a5 x.mp d5) (unhide l1))
  replace o1 := hide (((unhide o1).setc (j := 29) (u := .slice a4 x.mv d4) (unhide l1)).setc (j := 30) (u := .slice a5 x.mp d5) (unhide l1))
  replace o2 := hide (((unhide o2).setc (j := 29) (u := .slice a4 x.mv d4) (unhide l3)).setc (j := 30) (u := .slice a5 x.mp d5) (unhide l3))
  replace o3 := hide (((unhide o3).setc (j := 29) (u := .slice a4 x.mv d4) (unhide l4)).setc (j := 30) (u := .slice a5 x.mp d5) (unhide l4))
  replace o4 := hide (((unhide o4).setc (j := 29) (u := .slice a4 x.mv d4) (unhide l4)).setc (j := 30) (u := .slice a5 x.mp d5) (unhide l4))
  generalize (u3.setCell ⟨b1, 29, none⟩ (.slice a4 x.mv d4)).setCell ⟨b1, 30, none⟩ (.slice a5 x.mp d5) = U3 at R R2 HB o0 o1 o2 o3 o4 ⊢
  clear u3
  obtain ⟨s', hs'⟩ : ∃ t, Hid (t = ({ s with av := a1, cv := d1, ap := a2, cp := d2, ad := a3, cd := d3, bv := a4, dv := d4, bp := a5, dp := d5 } : Na)) := ⟨_, rfl⟩
  replace R := hide (show U3.heap[b1]? = some (.cells (ndC x s') 47 (0, 0)) by rw [unhide hs']; exact unhide R)
  have hG := hide (show NdG U3 W.heap.size x s' by
    rw [unhide hs']
    exact ndG_of (b1 := U1.heap.size) (b2 := U2.heap.size) (b3 := U3.heap.size) (unhide o0) (unhide o1) (unhide o2) (unhide o3) (unhide o4) ⟨fun k e => by have := unhide q0 k e; have := unhide s2; omega, fun k e => by have := unhide q1 k e; have := unhide s2; omega, fun k e => .inl (unhide q2 k e), fun k e => ((unhide o3).lt k e).2, fun k e => ((unhide o4).lt k e).2⟩ (by have := unhide s1; have := unhide s2; omega))
  clear o0 o1 o2 o3 o4 q0 q1 q2 E1 E2 E3 hs'
  go_wp2_with (first | refine load_own rfl _ rfl b1 rfl x s' 47 (unhide R) ?_ | refine wpList_store_row rfl 47 _ _ rfl b2 (ndC x s') rfl rfl 47 _ (unhide R2) (ndC_info x s') (by rw [unhide hz]; rfl) (ndC_one x s') ?_)
  have R2' := hide (setRow_heap _ _ _ (ndC x s') _ _ (unhide R2))
  refine bodyPost_ret (v := .agg (ndC x s')) (results_cell_row rfl _ _ b2 47 _ (0, 0) _ rfl (unhide R2') Tryz.underlying47 rfl (ndC_info x s')) rfl ⟨s', rfl, ((unhide hG).setRow (unhide l2)).low ?_, below_setRow (unhide HB) (unhide lz).2.1 _⟩
  exact Nat.le_trans (unhide lz).1 (Nat.le_of_lt (unhide l1))
end Go.Proofs.YtdbphpekhmlmdaaGreatDoor

/-
  Nodes in regions that draw their order: loads, slices of one node, append onto a scene of one's own.
-/
namespace Go.Proofs.YtdbphpekhmlmdaaGreatDoor
open Go.RowKit
set_option linter.unusedVariables false

theorem rowCells {w : World} {b : Nat} {cs : Array Value} {t : TypeId} (h : w.heap[b]? = some (.cells cs t (0, 0))) : ∀ j u, cs.toList[j]? = some u → w.cell? ((⟨b, 0, none⟩ : Addr).add j) = some u := by
  intro j u hj
  rw [addN, cell_of_row w b (0 + j) cs t (0, 0) h, Nat.zero_add, ← Array.getElem?_toList]
  exact hj
theorem ndOne (x : Nd) (s : Na) : ∀ u ∈ (ndC x s).toList, u.oneCell' = true := by
  intro u hu
  have h1 := ndC_one x s
  rw [← Array.all_toList] at h1
  exact List.all_eq_true.1 h1 u hu
theorem rowRng {w : World} {b : Nat} {C : Array Value} {t : TypeId} (h : w.heap[b]? = some (.cells C t (0, 0))) : w.rangeAt b 0 C.toList := fun j v hv => by
  rw [Array.getElem?_toList] at hv
  simp [World.cell?, h, hv]
theorem runBuild (x : Nd) (s : Na) (w : World) : (Instr.buildSlice 24 1 #[(0, .agg (ndC x s))]).run Tryz.prog w = .ok (.slice (some ⟨w.heap.size, 0, none⟩) 1 1) (w.alloc (.cells (ndC x s) 47)) := by kernel_rfl
theorem step_build_node {ops : Array Oper} {oo : Oper} {a : Act} {K : Act → World → Prop} {Q : Exit → Act → World → Prop} {E : Prop} {V : World} (hg : oo.guard = none) (y : Operand) (hop : oo.op = .buildSlice 24 1 #[(0, y)]) (x : Nd) (s : Na) (hy : a.eval y = .agg (ndC x s))
    (hK : K (a.put oo.dst (.slice (some ⟨V.heap.size, 0, none⟩) 1 1)) (V.alloc (.cells (ndC x s) 47))) : if Region.wanted oo (yielded ops a.tmps) = true then Oper.wp Tryz.prog oo a V K Q else E := by
  have hw : Region.wanted oo (yielded ops a.tmps) = true := by simp [Region.wanted, hg]
  rw [if_pos hw]
  unfold Oper.wp execOp
  simp only [hop, List.map_toArray, List.map_cons, List.map_nil, hy, Sem.run_bind, Sem.run_pure, Result.andThen_ok, runBuild]
  exact hK
theorem OwnL.kept {w u : World} {base : Nat} {x : Nd} {s : Na} {l : Nat} {row : Option Nat} (h : OwnL w base x s l) (hg : w.grownBy u row) (hr : (lvl x s l).ownBlock = none ∨ (lvl x s l).ownBlock ≠ row) : OwnL u base x s l := let ⟨xs, h1, h2⟩ := h; ⟨xs, h1.kept hg hr, h2⟩
theorem lty_ne (l : Nat) : lty l ≠ 47 := by unfold lty; split <;> decide
theorem OwnL.row {w : World} {base base' n : Nat} {x : Nd} {s : Na} {l : Nat} {v : Value} {ys : List Value} (h : OwnL w base x s l) (hr : w.ownsRow base' 47 31 v n ys) : ∀ k, (lvl x s l).ownBlock = some k → v.ownBlock ≠ some k := let ⟨_, h1, _⟩ := h; own_kind h1 hr (lty_ne l)
theorem OwnL.off {w : World} {base base' n : Nat} {x : Nd} {s : Na} {l : Nat} {v : Value} {ys : List Value} (h : OwnL w base x s l) (hr : w.ownsRow base' 47 31 v n ys) : (lvl x s l).ownBlock = none ∨ (lvl x s l).ownBlock ≠ v.ownBlock := by
  cases hk : (lvl x s l).ownBlock with
  | none => exact .inl rfl
  | some k => exact .inr (fun e => h.row hr k hk e.symm)
theorem NsAt.snoc {ys : List Value} {X : Nat → Nd} {A : Nat → Na} {n : Nat} (h : NsAt ys X A n) (hl : ys.length = n * 31) (x : Nd) (s : Na) : NsAt (ys ++ (ndC x s).toList) (upd X n x) (upd A n s) (n + 1) := by
  intro j hj m v hv
  have hm : m < 31 := by have := (Array.getElem?_eq_some_iff.1 hv).1; rwa [ndC_size] at this
  by_cases e : j = n
  · subst e
    rw [upd_at, upd_at] at hv
    rw [List.getElem?_append_right (by omega), hl, show j * 31 + m - j * 31 = m by omega, Array.getElem?_toList]
    exact hv
  · rw [upd_ne _ _ e, upd_ne _ _ e] at hv
    rw [List.getElem?_append_left (by omega)]
    exact h j (by omega) m v hv
/-- A scene of one's own with one node more at its end. -/
theorem SG.snoc {u u' : World} {base T n c c' : Nat} {p p' : Option Addr} {X : Nat → Nd} {A : Nat → Na} {x : Nd} {s : Na} {ys : List Value} (h : SG u base T p n c X A) (hx : NdG u base x s) (hd : ∀ l, l < 5 → ∀ k, (lvl x s l).ownBlock = some k → T ≤ k)
    (hr : u.ownsRow base 47 31 (.slice p n c) n ys) (hy : NsAt ys X A n) (ho : u'.ownsRow base 47 31 (.slice p' (n + 1) c') (n + 1) (ys ++ (ndC x s).toList)) (hg : u.grownBy u' (Value.slice p n c).ownBlock) : SG u' base u'.heap.size p' (n + 1) c' (upd X n x) (upd A n s) := by
  have own : ∀ j, j < n + 1 → ∀ l, l < 5 → OwnL u' base (upd X n x j) (upd A n s j) l := fun j hj l hl => by
    by_cases e : j = n
    · subst e; rw [upd_at, upd_at]; exact (hx.own l hl).kept hg ((hx.own l hl).off hr)
    · rw [upd_ne _ _ e, upd_ne _ _ e]; exact (h.own j (by omega) l hl).kept hg ((h.own j (by omega) l hl).off hr)
  refine ⟨⟨_, ho, hy.snoc hr.1 x s⟩, own, fun i j hi hj l m hl hm k e1 e2 => ?_, fun j hj l hl k e => ⟨((own j hj l hl).lt k e).2, (own j hj l hl).row ho k e⟩, fun k e => (ho.lt k e).2⟩
  by_cases ei : i = n <;> by_cases ej : j = n
  · subst ei; subst ej
    simp only [upd_at] at e1 e2
    exact ⟨rfl, hx.inj l m hl hm k e1 e2⟩
  · subst ei
    simp only [upd_at, upd_ne _ _ ej] at e1 e2
    have := hd l hl k e1
    have := (h.apt.blk j (by omega) m hm k e2).1
    omega
  · subst ej
    simp only [upd_at, upd_ne _ _ ei] at e1 e2
    have := hd m hm k e2
    have := (h.apt.blk i (by omega) l hl k e1).1
    omega
  · simp only [upd_ne _ _ ei, upd_ne _ _ ej] at e1 e2
    exact h.apt.inj i j (by omega) (by omega) l m hl hm k e1 e2
theorem SG.alloc {u : World} {base T n c : Nat} {p : Option Addr} {X : Nat → Nd} {A : Nat → Na} (h : SG u base T p n c X A) (ob : Obj) : SG (u.alloc ob) base T p n c X A := h.next (al1_below u ob)
/-- append of one node, in a region that draws. V: the world at the call's begin; u: behind it. -/
theorem step_append_sg {ops : Array Oper} {oo : Oper} {a : Act} {K : Act → World → Prop} {Q : Exit → Act → World → Prop} {E : Prop} {V u : World} {base T n c : Nat} {p : Option Addr} {X : Nat → Nd} {A : Nat → Na} {x : Nd} {sx : Na} (hg : oo.guard = none) (s y : Operand)
    (hop : oo.op = .call { callee := .builtin .append, args := #[s, y], argTypes := #[24, 24] })
    (h : SG V base T p n c X A) (hT : T ≤ V.heap.size) (hbase : base ≤ V.heap.size) (hb : Below V.heap.size V u) (hx : NdG u V.heap.size x sx) (hn : n ≤ 1048576) (hs : a.eval s = .slice p n c) (hy : a.eval y = .slice (some ⟨u.heap.size, 0, none⟩) 1 1)
    (hK : ∀ p' c' w', SG w' base w'.heap.size p' (n + 1) c' (upd X n x) (upd A n sx) → (u.alloc (.cells (ndC x sx) 47)).grownBy w' (Value.slice p n c).ownBlock → K (a.put oo.dst (.slice p' (n + 1) c')) w') :
    if Region.wanted oo (yielded ops a.tmps) = true then Oper.wp Tryz.prog oo a (u.alloc (.cells (ndC x sx) 47)) K Q else E := by
  obtain ⟨i, hi, hz, hsize, hby⟩ := info_parts infoNode
  have h2 := (h.next hb).alloc (.cells (ndC x sx) 47)
  obtain ⟨ys, hr, hys⟩ := h2.row
  have hw : Region.wanted oo (yielded ops a.tmps) = true := by simp [Region.wanted, hg]
  rw [if_pos hw]
  have hsz := hb.size
  refine wp_append_own (u.alloc (.cells (ndC x sx) 47)) s y 24 hop base 47 i (.agg ndZ) 31 328 Tryz.underlying24 hi hz hsize hby rfl (by decide) _ n ys hs hr ⟨u.heap.size, 0, none⟩ 1 1 (ndC x sx).toList hy (by rfl) (rowCells (new_row u _)) (ndOne x sx) (by unfold maxLen; omega) (by omega) (by rw [al1_size]; omega) ?_
  intro v' w' ho' hg' _
  obtain ⟨p', c', rfl⟩ := own_form ho'
  have hx2 := (hx.next (al1_below u (.cells (ndC x sx) 47))).low hbase
  exact hK p' c' w' (h2.snoc hx2 (fun l hl k e => Nat.le_trans hT ((hx.own l hl).lt k e).1) hr hys ho' hg') hg'
theorem SG.setc {u : World} {base T n c b j : Nat} {p : Option Addr} {v : Value} {X : Nat → Nd} {A : Nat → Na} (h : SG u base T p n c X A) (hb : b < base) : SG (u.setCell ⟨b, j, none⟩ v) base T p n c X A :=
  let ⟨ys, h1, h2⟩ := h.row; ⟨⟨ys, own_setc h1 hb, h2⟩, fun j hj l hl => let ⟨xs, a1, a2⟩ := h.own j hj l hl; ⟨xs, own_setc a1 hb, a2⟩, h.apt⟩
theorem sg_nil (u : World) (base T : Nat) (X : Nat → Nd) (A : Nat → Na) : SG u base T none 0 0 X A :=
  ⟨⟨[], ⟨by simp, .inl ⟨rfl, rfl⟩⟩, fun j hj => absurd hj (by omega)⟩, fun j hj => absurd hj (by omega), fun i j hi => absurd hi (by omega), fun j hj => absurd hj (by omega), fun k e => by cases e⟩
end Go.Proofs.YtdbphpekhmlmdaaGreatDoor

/-
  The program's sceneCopy.
-/
namespace Go.Proofs.YtdbphpekhmlmdaaGreatDoor
open Go.RowKit
set_option linter.unusedVariables false

theorem NsAt.put {ys : List Value} {X : Nat → Nd} {A : Nat → Na} {n k : Nat} (h : NsAt ys X A n) (hk : k < n) (hl : ys.length = n * 31) (x : Nd) (s : Na) : NsAt (setL ys (k * 31) (ndC x s).toList) (upd X k x) (upd A k s) n := by
  have hz : (ndC x s).toList.length = 31 := rfl
  intro j hj m v hv
  have hm : m < 31 := by have := (Array.getElem?_eq_some_iff.1 hv).1; rwa [ndC_size] at this
  by_cases e : j = k
  · subst e
    rw [upd_at, upd_at] at hv
    rw [setL_in _ _ _ _ (by rw [hz]; omega) (by rw [hz]; exact hm), Array.getElem?_toList]
    exact hv
  · rw [upd_ne _ _ e, upd_ne _ _ e] at hv
    rw [setL_out _ _ _ _ (by rw [hz]; omega)]
    exact h j hj m v hv
theorem upd_self {α : Type} (f : Nat → α) (k : Nat) : upd f k (f k) = f := by
  funext j
  by_cases e : j = k
  · subst e; rw [upd_at]
  · rw [upd_ne _ _ e]
/-- A scene's row whose first k nodes have lists of their own. -/
structure SP (u : World) (base : Nat) (a : Option Addr) (n c : Nat) (X : Nat → Nd) (A0 A : Nat → Na) (k : Nat) : Prop where
  row : ∃ ys, u.ownsRow base 47 31 (.slice a n c) n ys ∧ NsAt ys X A n
  rest : ∀ j, k ≤ j → j < n → A j = A0 j
  own : ∀ j, j < k → ∀ l, l < 5 → OwnL u base (X j) (A j) l
  inj : ∀ i j, i < k → j < k → ∀ l m, l < 5 → m < 5 → ∀ q, (lvl (X i) (A i) l).ownBlock = some q → (lvl (X j) (A j) m).ownBlock = some q → i = j ∧ l = m
theorem SP.next {u u' : World} {base n c k : Nat} {a : Option Addr} {X : Nat → Nd} {A0 A : Nat → Na} (h : SP u base a n c X A0 A k) (hb : Below u.heap.size u u') : SP u' base a n c X A0 A k :=
  let ⟨ys, h1, h2⟩ := h.row; ⟨⟨ys, own_below h1 hb, h2⟩, h.rest, fun j hj l hl => (h.own j hj l hl).next hb, h.inj⟩
theorem SP.sg {u : World} {base n c : Nat} {a : Option Addr} {X : Nat → Nd} {A0 A : Nat → Na} (h : SP u base a n c X A0 A n) : SG u base u.heap.size a n c X A :=
  let ⟨ys, h1, h2⟩ := h.row; ⟨⟨ys, h1, h2⟩, h.own, h.inj, fun j hj l hl k e => ⟨((h.own j hj l hl).lt k e).2, (h.own j hj l hl).row h1 k e⟩, fun k e => (h1.lt k e).2⟩
theorem SP.range {u : World} {base g n c k : Nat} {X : Nat → Nd} {A0 A : Nat → Na} (h : SP u base (some ⟨g, 0, none⟩) n c X A0 A k) (hk : k < n) : u.rangeAt g (k * 31) (ndC (X k) (A0 k)).toList := by
  obtain ⟨ys, h1, h2⟩ := h.row
  intro j v hv
  rw [Array.getElem?_toList] at hv
  have hj : j < 31 := by have := (Array.getElem?_eq_some_iff.1 hv).1; rwa [ndC_size] at this
  rw [h1.cellAt _ (by omega)]
  exact h2 k hk j v (by rw [h.rest k (Nat.le_refl _) hk]; exact hv)
theorem SP.there {u : World} {base g n c k : Nat} {X : Nat → Nd} {A0 A : Nat → Na} (h : SP u base (some ⟨g, 0, none⟩) n c X A0 A k) (hk : k < n) : u.there g (k * 31) 31 := let ⟨_, h1, _⟩ := h.row; own_there h1 hk
theorem sets_grown (g : Nat) : ∀ (l : List Value) (w : World) (o : Nat), w.grownBy (w.setCells g o l) (some g)
  | [], w, _ => ⟨rfl, rfl, rfl, Nat.le_refl _, fun _ _ _ => rfl⟩
  | v :: r, w, o => by
    have h1 := setc_grown w g o v
    have h2 := sets_grown g r (w.setCell ⟨g, o, none⟩ v) (o + 1)
    exact ⟨h2.os.trans h1.os, h2.tape.trans h1.tape, h2.output.trans h1.output, Nat.le_trans h1.size h2.size, fun k hk hne => (h2.block k (Nat.lt_of_lt_of_le hk h1.size) hne).trans (h1.block k hk hne)⟩
theorem SP.step {u u1 : World} {base g n c k B : Nat} {X : Nat → Nd} {A0 A : Nat → Na} {s : Na} (h : SP u base (some ⟨g, 0, none⟩) n c X A0 A k) (hk : k < n) (hB : base ≤ B) (hu : u.heap.size ≤ B) (hb : Below u.heap.size u u1) (hx : NdG u1 B (X k) s) :
    SP (u1.setCells g (k * 31) (ndC (X k) s).toList) base (some ⟨g, 0, none⟩) n c X A0 (upd A k s) (k + 1) := by
  obtain ⟨ys, h1, h2⟩ := (h.next hb).row
  have hg := sets_grown g (ndC (X k) s).toList u1 (k * 31)
  have h3 := h2.put hk h1.1 (X k) s
  rw [upd_self] at h3
  refine ⟨⟨_, own_setMany _ h1, h3⟩, fun j hj hn => ?_, fun j hj l hl => ?_, fun i j hi hj l m hl hm q e1 e2 => ?_⟩
  · rw [upd_ne _ _ (by omega)]; exact h.rest j (by omega) hn
  · by_cases e : j = k
    · subst e; rw [upd_at]; exact ((hx.own l hl).low hB).kept hg ((hx.own l hl).off h1)
    · rw [upd_ne _ _ e]; exact ((h.next hb).own j (by omega) l hl).kept hg (((h.next hb).own j (by omega) l hl).off h1)
  · by_cases ei : i = k <;> by_cases ej : j = k
    · subst ei; subst ej
      simp only [upd_at] at e1 e2
      exact ⟨rfl, hx.inj l m hl hm q e1 e2⟩
    · subst ei
      rw [upd_at] at e1
      rw [upd_ne _ _ ej] at e2
      have := ((hx.own l hl).lt q e1).1
      have := ((h.own j (by omega) m hm).lt q e2).2
      omega
    · subst ej
      rw [upd_at] at e2
      rw [upd_ne _ _ ei] at e1
      have := ((hx.own m hm).lt q e2).1
      have := ((h.own i (by omega) l hl).lt q e1).2
      omega
    · rw [upd_ne _ _ ei] at e1
      rw [upd_ne _ _ ej] at e2
      exact h.inj i j (by omega) (by omega) l m hl hm q e1 e2
/-- A scene that is handed back. -/
def ScRes (w : World) (r : Ending) (w' : World) (n : Nat) (X : Nat → Nd) : Prop := ∃ a c A, r = .returned (.agg #[.slice a n c]) ∧ SG w' w.heap.size w'.heap.size a n c X A ∧ Below w.heap.size w w'

set_option maxHeartbeats 8000000 in
set_option maxRecDepth 100000 in
theorem implSceneCopy_any (X : Nat → Nd) (A : Nat → Na) (ao : Option Addr) (n cp : Nat) (hn : n ≤ 1048576) (hc : n ≤ cp) (hao : ao = none → cp = 0) (hs : ∀ i, i < n → (X i).Small) (hk : ∀ i, i < n → Caps (X i) (A i)) (w : World) (P : ∀ i, i < n → NrAt w ao i (X i) (A i)) :
    Calls Tryz.prog 22 #[.agg #[.slice ao n cp]] w fun r w' => ScRes w r w' n X := by
  have EC := hide (fun u (hu : Below w.heap.size w u) => cloneNs_any X A ao n cp hn hc hao u (fun i hi => (P i hi).next hu))
  have EN := hide (fun k (hk' : k < n) u (hu : Below w.heap.size w u) => implNodeCopy_any (X k) (A k) (hs k hk') (hk k hk') u (((P k hk').next hu).inn))
  clear P hs hk
  go_enter Tryz.func22, Tryz.ntmps22
  go_upto_region 1 with fail
  have R := hide (al2_0 w (.cells #[.slice ao n cp] 26) (.cells #[.slice none 0 0] 26))
  have R2 := hide (al2_1 w (.cells #[.slice ao n cp] 26) (.cells #[.slice none 0 0] 26))
  have HB := hide (al2_below w (.cells #[.slice ao n cp] 26) (.cells #[.slice none 0 0] 26))
  obtain ⟨b2, hb2⟩ : ∃ b, Hid (b = w.heap.size + 1) := ⟨_, rfl⟩
  obtain ⟨b1, hb1⟩ : ∃ b, Hid (b = w.heap.size) := ⟨_, rfl⟩
  have lz : Hid (w.heap.size ≤ b2) := by unfold Hid; rw [unhide hb2]; omega
  rw [← unhide hb2] at R2
  rw [← unhide hb1] at R
  rw [← unhide hb2, ← unhide hb1]
  generalize (w.alloc (.cells #[.slice ao n cp] 26)).alloc (.cells #[.slice none 0 0] 26) = W at R R2 HB ⊢
  clear hb2 hb1
  have c0 := row1 (unhide R)
  have l2 := hide (show b2 < W.heap.size from heap_lt (unhide R2))
  go_wp2_with fail
  go_fit (unhide EC _ (unhide HB))
  rintro r u1 ⟨av, cv, rfl, ho, hb⟩
  have H0 := hide (show SP u1 W.heap.size av n cv X A A 0 from ⟨ho, fun _ _ _ => rfl, fun j hj => absurd hj (by omega), fun i j hi => absurd hi (by omega)⟩)
  replace R2 := hide (row_next hb (unhide R2))
  have hsz := hide hb.size
  replace HB := hide (below_two (unhide HB) hb)
  have R2' := R2
  clear c0 hb ho EC R R2
  go_upto_region 3 with fail
  go_loopw [11] (fun i u => ∃ k : Nat, k ≤ n ∧ i = .int .i64 (k : Int) ∧ Hid (u.heap[b2]? = some (.cells #[.slice none 0 0] 26 (0, 0)) ∧ Below w.heap.size w u ∧ W.heap.size ≤ u.heap.size ∧ ∃ A', SP u W.heap.size av n cv X A A' k)) (fun i _ => n - (intOf i).toNat)
  case atStart => exact ⟨0, Nat.zero_le _, rfl, unhide R2', unhide HB, unhide hsz, A, unhide H0⟩
  case round =>
    clear H0 HB R2' hsz
    obtain ⟨k, hk, rfl, HK⟩ := hrel
    obtain ⟨R2, HB, hsz, A', H⟩ := unhide HK
    replace R2 := hide R2
    replace HB := hide HB
    replace hsz := hide hsz
    replace H := hide H
    clear HK
    by_cases hlt : k < n
    · have hki : (k : Int) < (n : Int) := by omega
      obtain ⟨ys, h1, _⟩ := (unhide H).row
      obtain ⟨g, c', e, hg0, hg1⟩ := own_at h1 (by omega)
      cases e
      replace hg1 := hide hg1
      replace hg0 := hide hg0
      clear h1
      have hrg := hide ((unhide H).range hlt)
      go_upto_region 5 with (first | with_reducible refine load_node rfl _ rfl g (k * 31) rfl (X k) (A k) (unhide hrg) ?_ | with_reducible refine store_new rfl _ _ rfl _ (X k) (A k) rfl rfl rfl ?_)
      have hbn := hide (al1_below wr (.cells (ndC (X k) (A k)) 47))
      have RX := hide (new_row wr (.cells (ndC (X k) (A k)) 47))
      have HB1 := hide (below_two (unhide HB) (unhide hbn))
      have hsx := hide (unhide hbn).size
      have H1 := hide ((unhide H).next (unhide hbn))
      generalize wr.alloc (.cells (ndC (X k) (A k)) 47) = wx at hbn RX HB1 hsx H1 ⊢
      generalize wr.heap.size = bx at RX ⊢
      go_wp2_with (with_reducible refine load_own rfl _ rfl bx rfl (X k) (A k) 47 (unhide RX) ?_)
      go_fit (unhide EN k hlt _ (unhide HB1))
      rintro r u2 ⟨s', rfl, hx, hb⟩
      have H2 := hide ((unhide H1).step hlt (Nat.le_trans (unhide hsz) (unhide hsx)) (Nat.le_refl _) hb hx)
      have hth := hide (((unhide H1).next hb).there hlt)
      have hb3 := hide (show Below wr.heap.size wr u2 from below_two (unhide hbn) hb)
      clear hb hx
      go_wp2_with (with_reducible refine store_node rfl _ _ rfl g (k * 31) (X k) s' rfl rfl (unhide hth) ?_)
      go_roundw
      case rel =>
        refine ⟨k + 1, by omega, by go_num, sets_other ?_ _ (row_next (unhide hb3) (unhide R2)), below_sets ?_ _ (below_two (unhide HB) (unhide hb3)), ?_, _, unhide H2⟩
        · have := unhide l2; have := unhide hg0; omega
        · have := unhide l2; have := unhide hg0; have := unhide lz; omega
        · rw [sets_size]; exact Nat.le_trans (unhide hsz) (unhide hb3).size
      case measure => simp [intOf]; omega
    · have hke : k = n := by omega
      subst hke
      have hki : ¬ (k : Int) < (k : Int) := by omega
      have d0 := row1 (unhide R2)
      have f0 := frozen_of_row wr b2 0 _ _ (unhide R2)
      go_wp2_with fail
      refine bodyPost_ret (v := .agg #[.slice av k cv]) (by simp [results, Tryz.results22, go_sem, d0]) rfl ⟨_, _, A', rfl, ?_, ?_⟩
      · have h := ((unhide H).sg.setc (b := b2) (j := 0) (v := .slice av k cv) (unhide l2)).low (Nat.le_trans (unhide lz) (Nat.le_of_lt (unhide l2)))
        simpa [World.setCell] using h
      · exact (unhide HB).setCell (p := ⟨b2, 0, none⟩) (unhide lz) _
end Go.Proofs.YtdbphpekhmlmdaaGreatDoor

/-
  The specification's KidsOf.
-/
namespace Go.Proofs.YtdbphpekhmlmdaaGreatDoor
open Go.RowKit
set_option linter.unusedVariables false

theorem infoInt15 : (Tryz.prog.info? 3).map (fun i => (i.zero, i.size, i.bytes)) = some (some (.int .i64 0), 1, 8) := by kernel_rfl
def Zv (z : Int) : Value := .int .i64 z
/-- A call hands back numbers that are its own. -/
def IdsRes (w : World) (r : Ending) (w' : World) (L : List Int) : Prop :=
  ∃ p cap, r = .returned (.slice p L.length cap) ∧ w'.ownsRow w.heap.size 3 1 (.slice p L.length cap) L.length (L.map Zv) ∧ Below w.heap.size w w'
theorem own_ids {w : World} {base : Nat} {v : Value} {L : List Int} (h : w.ownsRow base 3 1 v L.length (L.map Zv)) : w.ownsRow base 3 1 v (L.map Zv).length (L.map Zv) := by
  rw [List.length_map]; exact h
theorem ids_snoc {w : World} {base : Nat} {v : Value} {L : List Int} {z : Int} (h : w.ownsRow base 3 1 v (L.map Zv ++ #[Value.int .i64 z].toList).length (L.map Zv ++ #[Value.int .i64 z].toList)) : w.ownsRow base 3 1 v (L ++ [z]).length ((L ++ [z]).map Zv) := by
  have e : (L ++ [z]).map Zv = L.map Zv ++ #[Value.int .i64 z].toList := by simp [Zv]
  rw [e]
  have e2 : (L ++ [z]).length = (L.map Zv ++ #[Value.int .i64 z].toList).length := by simp
  rw [e2]
  exact h
/-- The Ids of the first k nodes that are picked. -/
def pickIds (X : Nat → Nd) (q : Nat → Bool) : Nat → List Int
  | 0 => []
  | k + 1 => if q k = true then pickIds X q k ++ [(X k).id] else pickIds X q k
theorem pick_le (X : Nat → Nd) (q : Nat → Bool) : ∀ k, (pickIds X q k).length ≤ k
  | 0 => Nat.le_refl _
  | k + 1 => by
    have := pick_le X q k
    unfold pickIds
    split
    · rw [List.length_append]; simp; omega
    · omega
def kidsL (X : Nat → Nd) (n : Nat) (id : Int) : List Int := pickIds X (fun k => decide ((X k).par = id)) n

end Go.Proofs.YtdbphpekhmlmdaaGreatDoor

/-
  The specification's UnderOf.
-/
namespace Go.Proofs.YtdbphpekhmlmdaaGreatDoor
open Go.RowKit
set_option linter.unusedVariables false

def underL (X : Nat → Nd) (n : Nat) (id : Int) : List Int := if firstN X id n < 0 then [] else pickIds X (fun k => underB X n (X k).id id) n

end Go.Proofs.YtdbphpekhmlmdaaGreatDoor

/-
  Right scenes: depths, what is under a node, how many kids there are in all.
-/
namespace Go.Proofs.YtdbphpekhmlmdaaGreatDoor
set_option linter.unusedVariables false

theorem depthN_succ (X : Nat → Nd) (n f : Nat) (c id : Int) : depthN X n (f + 1) c id = if id = 0 then c else if firstN X id n < 0 then 0 else depthN X n f (c + 1) (X (firstN X id n).toNat).par := rfl
theorem depth_more {X : Nat → Nd} {n : Nat} : ∀ {f : Nat} {c id : Int}, 0 < c → depthN X n f c id ≠ 0 → c ≤ depthN X n f c id ∧ ∀ (f' : Nat) (c' : Int), f ≤ f' → depthN X n f' c' id = depthN X n f c id - c + c'
  | 0, c, id, _, h => absurd rfl h
  | f + 1, c, id, hc, h => by
    rw [depthN_succ] at h ⊢
    by_cases h0 : id = 0
    · rw [if_pos h0] at h ⊢
      refine ⟨Int.le_refl _, fun f' c' hf => ?_⟩
      obtain ⟨g, rfl⟩ : ∃ g, f' = g + 1 := ⟨f' - 1, by omega⟩
      rw [depthN_succ, if_pos h0]; omega
    · rw [if_neg h0] at h ⊢
      by_cases h1 : firstN X id n < 0
      · rw [if_pos h1] at h; exact absurd rfl h
      · rw [if_neg h1] at h ⊢
        obtain ⟨h2, h3⟩ := depth_more (f := f) (c := c + 1) (by omega) h
        refine ⟨by omega, fun f' c' hf => ?_⟩
        obtain ⟨g, rfl⟩ : ∃ g, f' = g + 1 := ⟨f' - 1, by omega⟩
        rw [depthN_succ, if_neg h0, if_neg h1, h3 g (c' + 1) (by omega)]
        omega
theorem okAt_iff {X : Nat → Nd} {n i : Nat} : okAt X n i = true ↔ nodeOkB (X i) = true ∧ firstN X (X i).id n = (i : Int) ∧ (1 ≤ depthI X n (X i).id ∧ depthI X n (X i).id ≤ 4) ∧ ((X i).par = 0 ∨ (0 ≤ firstN X (X i).par n ∧ (X (firstN X (X i).par n).toNat).gr = true)) := by
  unfold okAt
  simp only [Bool.and_eq_true, decide_eq_true_eq, Bool.or_eq_true, inB_true]
theorem node_ids {x : Nd} (h : nodeOkB x = true) : (1 ≤ x.id ∧ x.id ≤ 99) ∧ (0 ≤ x.par ∧ x.par ≤ 99) ∧ x.id ≠ x.par := by
  unfold nodeOkB at h
  simp only [Bool.and_eq_true, inB_true, Bool.not_eq_true', decide_eq_false_iff_not] at h
  exact ⟨h.1, h.2.1, h.2.2.1⟩
theorem depth_step {X : Nat → Nd} {n i : Nat} (hS : ScOk X n) (hi : i < n) : depthI X n (X i).id = depthI X n (X i).par + 1 := by
  obtain ⟨h1, h2, ⟨h3, _⟩, _⟩ := okAt_iff.1 (hS.2 i hi)
  have hid := (node_ids h1).1
  unfold depthI at h3 ⊢
  have e : depthN X n 9 0 (X i).id = depthN X n 8 (0 + 1) (X i).par := by
    rw [depthN_succ, if_neg (by omega), if_neg (by omega), h2]
    rfl
  have h5 : depthN X n 8 (0 + 1) (X i).par ≠ 0 := by rw [← e]; omega
  have h4 := (depth_more (f := 8) (c := 0 + 1) (by omega) h5).2 9 0 (by omega)
  rw [e, h4]
  omega
theorem depth_zero (X : Nat → Nd) (n : Nat) : depthI X n 0 = 0 := by unfold depthI depthN; rw [if_pos rfl]
theorem pick_mem {X : Nat → Nd} {q : Nat → Bool} {z : Int} : ∀ {n : Nat}, z ∈ pickIds X q n ↔ ∃ k, k < n ∧ q k = true ∧ (X k).id = z
  | 0 => by simp [pickIds]
  | n + 1 => by
    unfold pickIds
    have ih := pick_mem (X := X) (q := q) (z := z) (n := n)
    constructor
    · intro h
      split at h
      · rename_i hq
        rcases List.mem_append.1 h with h | h
        · obtain ⟨k, h1, h2⟩ := ih.1 h; exact ⟨k, by omega, h2⟩
        · exact ⟨n, by omega, hq, (List.mem_singleton.1 h).symm⟩
      · obtain ⟨k, h1, h2⟩ := ih.1 h; exact ⟨k, by omega, h2⟩
    · rintro ⟨k, h1, h2, h3⟩
      by_cases e : k = n
      · subst e
        rw [if_pos h2]
        exact List.mem_append.2 (.inr (List.mem_singleton.2 h3.symm))
      · have hm := ih.2 ⟨k, by omega, h2, h3⟩
        split
        · exact List.mem_append.2 (.inl hm)
        · exact hm
def bit (b : Bool) : Nat := if b = true then 1 else 0
end Go.Proofs.YtdbphpekhmlmdaaGreatDoor

/-
  No node of a right scene has the Id 0.
-/
namespace Go.Proofs.YtdbphpekhmlmdaaGreatDoor
open Go.RowKit
set_option linter.unusedVariables false

theorem scOk_noZ {X : Nat → Nd} {n : Nat} (hS : ScOk X n) : firstN X 0 n < 0 := by
  rcases first_is (X := X) (id := 0) n with ⟨e, _⟩ | ⟨k, hk, e, e2, _⟩
  · omega
  · have := (node_ids (okAt_iff.1 (hS.2 k hk)).1).1
    omega
end Go.Proofs.YtdbphpekhmlmdaaGreatDoor

/-
  Nodes by their Ids: the program's map of pointers, and what both sides reckon of it.
-/
namespace Go.Proofs.YtdbphpekhmlmdaaGreatDoor
open Go.RowKit
set_option linter.unusedVariables false

theorem int_law : Go.Maps.Keyed Tryz.prog 3 := Go.Maps.int_keyed Tryz.underlying3
/-- An element of a map reads as itself. -/
def anyElem (v : Value) : Option (DataW Value × List MemPlace) := some (.held v, [])
theorem anyElem_inv {u v : Value} {ps : List MemPlace} (h : anyElem u = some (.held v, ps)) : u = v := by
  unfold anyElem at h
  cases h
  rfl
/-- Where node k of a list lies. -/
def nodeV (ao : Option Addr) (k : Nat) : Value := .pointer (ao.map (fun a => ⟨a.block, a.off + k * 31, none⟩))
/-- What stands at an Id: the first of n nodes that has it. -/
def stP (ao : Option Addr) (X : Nat → Nd) (n : Nat) (z : Int) : Value := if firstN X z n < 0 then .pointer none else nodeV ao (firstN X z n).toNat
/-- How many of n nodes are the first with their Id. -/
def firsts (X : Nat → Nd) : Nat → Nat
  | 0 => 0
  | n + 1 => if firstN X (X n).id n < 0 then firsts X n + 1 else firsts X n
theorem firsts_le (X : Nat → Nd) : ∀ n, firsts X n ≤ n
  | 0 => Nat.le_refl _
  | n + 1 => by
    have := firsts_le X n
    unfold firsts
    split <;> omega
theorem first_more (X : Nat → Nd) (z : Int) (n : Nat) : firstN X z (n + 1) = if 0 ≤ firstN X z n then firstN X z n else if (X n).id = z then (n : Int) else -1 := rfl
theorem firsts_all {X : Nat → Nd} : ∀ {n : Nat}, firsts X n = n → ∀ i, i < n → firstN X (X i).id n = (i : Int)
  | 0, _, i, hi => absurd hi (by omega)
  | n + 1, h, i, hi => by
    have hle := firsts_le X n
    unfold firsts at h
    split at h
    · rename_i hn
      have ih := firsts_all (X := X) (n := n) (by omega)
      rw [first_more]
      by_cases e : i = n
      · subst e
        rw [if_neg (by omega), if_pos rfl]
      · rw [ih i (by omega), if_pos (by omega)]
    · omega
theorem firsts_is {X : Nat → Nd} {n : Nat} (h : ∀ i, i < n → firstN X (X i).id n = (i : Int)) : ∀ m, m ≤ n → firsts X m = m
  | 0, _ => rfl
  | m + 1, hm => by
    have ih := firsts_is h m (by omega)
    unfold firsts
    have hf : firstN X (X m).id m < 0 := by
      rcases first_is (X := X) (id := (X m).id) n with ⟨e, _⟩ | ⟨k, hk, e, _, h2⟩
      · have := h m (by omega); omega
      · have h3 := h m (by omega)
        have h4 : k = m := by omega
        subst h4
        rw [first_none h2]; omega
    rw [if_pos hf]; omega
theorem firsts_no {X : Nat → Nd} {n : Nat} (h : firsts X n ≠ n) : ∃ i, i < n ∧ firstN X (X i).id n ≠ (i : Int) := by
  refine Classical.byContradiction (fun hc => h (firsts_is (fun i hi => ?_) n (Nat.le_refl _)))
  exact Classical.byContradiction (fun e => hc ⟨i, hi, e⟩)
/-- The map of the first n nodes. -/
def Stand (w : World) (m : Nat) (ao : Option Addr) (X : Nat → Nd) (n : Nat) : Prop :=
  ∃ D : DataW Value, w.ownsMap Tryz.prog 3 anyElem m n D ∧ (∀ z, (Lit.int .i64 z).wf = true → D.atKey (.int .i64 z) (.held (.pointer none)) = .held (stP ao X n z)) ∧ (∀ z, (Lit.int .i64 z).wf = true → Maps.has D (.int .i64 z) = decide (¬ firstN X z n < 0)) ∧ Maps.size D = firsts X n
theorem ownsMap_next {w u : World} {P : Program} {k : TypeId} {R : Value → Option (DataW Value × List MemPlace)} {m n : Nat} {D : DataW Value} (h : w.ownsMap P k R m n D) (hb : Below w.heap.size w u) : u.ownsMap P k R m n D :=
  let ⟨es, c, h1, h2⟩ := h; ⟨es, c, row_next hb h1, h2⟩
theorem Stand.next {w u : World} {m n : Nat} {ao : Option Addr} {X : Nat → Nd} (h : Stand w m ao X n) (hb : Below w.heap.size w u) : Stand u m ao X n :=
  let ⟨D, h1, h2⟩ := h; ⟨D, ownsMap_next h1 hb, h2⟩
theorem Stand.made (w : World) (ao : Option Addr) (X : Nat → Nd) : Stand (w.alloc (.map #[] 0)) w.heap.size ao X 0 :=
  ⟨.map [], World.ownsMap_made w _ _ _, fun z _ => rfl, fun z _ => rfl, rfl⟩
theorem ptr_zero (w : World) : (zeroValue 99).run Tryz.prog w = .ok (.pointer none) w := by kernel_rfl
theorem Stand.look {w : World} {m n : Nat} {ao : Option Addr} {X : Nat → Nd} (h : Stand w m ao X n) (z : Int) (hz : (Lit.int .i64 z).wf = true) : (Instr.lookup 71 (.map (some m)) (.int .i64 z) false).run Tryz.prog w = .ok (stP ao X n z) w := by
  obtain ⟨D, h1, h2, _⟩ := h
  obtain ⟨v, ps, hrun, hv⟩ := h1.lookup int_law Tryz.underlying71 (ptr_zero w) (zd := .held (.pointer none)) (zp := []) rfl (Go.Maps.keyOf_int_mk Tryz.underlying3 hz)
  rw [h2 z hz] at hv
  rw [hrun, anyElem_inv hv]
theorem Stand.len {w : World} {m n : Nat} {ao : Option Addr} {X : Nat → Nd} (h : Stand w m ao X n) (ty : TypeId) : (Builtin.len_ #[71] ty #[.map (some m)]).run Tryz.prog w = .ok (.int .i64 (firsts X n)) w := by
  obtain ⟨D, h1, _, _, h4⟩ := h
  rw [h1.len Tryz.underlying71, h4]
theorem Stand.skip {w : World} {m n : Nat} {ao : Option Addr} {X : Nat → Nd} (h : Stand w m ao X n) (hf : ¬ firstN X (X n).id n < 0) : Stand w m ao X (n + 1) := by
  obtain ⟨D, h1, h2, h3, h4⟩ := h
  have e : ∀ z, firstN X z (n + 1) = firstN X z n := by
    intro z
    rw [first_more]
    by_cases h0 : 0 ≤ firstN X z n
    · rw [if_pos h0]
    · rw [if_neg h0]
      by_cases hx : (X n).id = z
      · subst hx; omega
      · rw [if_neg hx]
        rcases first_is (X := X) (id := z) n with ⟨e, _⟩ | ⟨k, _, e, _⟩ <;> omega
  refine ⟨D, h1.mono (by omega), fun z hz => ?_, fun z hz => ?_, ?_⟩
  · rw [h2 z hz]; unfold stP; rw [e]
  · rw [h3 z hz, e]
  · rw [h4, firsts, if_neg hf]
theorem Stand.put {w : World} {m n : Nat} {ao : Option Addr} {X : Nat → Nd} (h : Stand w m ao X n) (hn : n ≤ 1048576) (hf : firstN X (X n).id n < 0) (hz : (Lit.int .i64 (X n).id).wf = true) :
    ∃ w', (Instr.mapUpdate 71 (.map (some m)) (.int .i64 (X n).id) (nodeV ao n)).run Tryz.prog w = .ok () w' ∧ Stand w' m ao X (n + 1) ∧ w.grownBy w' (some m) := by
  obtain ⟨D, h1, h2, h3, h4⟩ := h
  have hT := h1.tidy int_law
  obtain ⟨w', hrun, hown, hg⟩ := h1.update int_law Tryz.underlying71 (by unfold maxLen; omega) (Go.Maps.keyOf_int_mk Tryz.underlying3 hz) (show anyElem (nodeV ao n) = some (.held (nodeV ao n), []) from rfl)
  have e1 : firstN X (X n).id (n + 1) = (n : Int) := by rw [first_more, if_neg (by omega), if_pos rfl]
  have e2 : ∀ z, (X n).id ≠ z → firstN X z (n + 1) = firstN X z n := by
    intro z hx
    rw [first_more]
    by_cases h0 : 0 ≤ firstN X z n
    · rw [if_pos h0]
    · rw [if_neg h0, if_neg hx]
      rcases first_is (X := X) (id := z) n with ⟨e, _⟩ | ⟨k, _, e, _⟩ <;> omega
  refine ⟨w', hrun, ⟨_, hown, fun z hzw => ?_, fun z hzw => ?_, ?_⟩, hg⟩
  · by_cases hx : (X n).id = z
    · subst hx
      rw [Go.Maps.atKey_put_same hT.isMap (by trivial)]
      unfold stP
      rw [e1, if_neg (by omega)]
      rfl
    · rw [Go.Maps.atKey_put_other (by intro e; cases e; exact hx rfl), h2 z hzw]
      unfold stP
      rw [e2 z hx]
  · by_cases hx : (X n).id = z
    · subst hx
      rw [Go.Maps.has_put_same hT.isMap (by trivial), e1]
      exact (decide_eq_true (by omega)).symm
    · rw [Go.Maps.has_put_other (by intro e; cases e; exact hx rfl), h3 z hzw, e2 z hx]
  · rw [Go.Maps.size_put hT, h3 _ hz, h4, decide_eq_false (by omega), firsts, if_pos hf]
    rfl
theorem stP_none {ao : Option Addr} {X : Nat → Nd} {n : Nat} {z : Int} (h : firstN X z n < 0) : stP ao X n z = .pointer none := if_pos h
theorem stP_at {b o : Nat} {X : Nat → Nd} {n k : Nat} {z : Int} (h : firstN X z n = (k : Int)) : stP (some ⟨b, o, none⟩) X n z = .pointer (some ⟨b, o + k * 31, none⟩) := by
  unfold stP; rw [if_neg (by omega), h]; rfl
/-- How deep, as the program goes: d tells how far it has come. -/
def depthM (X : Nat → Nd) (n : Nat) : Nat → Int → Int → Int
  | 0, _, _ => 0
  | fuel + 1, d, id => if firstN X id n < 0 then 0 else if (X (firstN X id n).toNat).par = 0 then d else depthM X n fuel (d + 1) (X (firstN X id n).toNat).par
theorem depthM_is {X : Nat → Nd} {n : Nat} : ∀ (fuel : Nat) (d id : Int), id ≠ 0 → depthM X n fuel d id = depthN X n (fuel + 1) (d - 1) id
  | 0, d, id, h => by
    unfold depthM depthN
    rw [if_neg h]
    split
    · rfl
    · rfl
  | fuel + 1, d, id, h => by
    unfold depthM
    rw [depthN, if_neg h]
    by_cases h1 : firstN X id n < 0
    · rw [if_pos h1, if_pos h1]
    · rw [if_neg h1, if_neg h1]
      by_cases h2 : (X (firstN X id n).toNat).par = 0
      · rw [if_pos h2, depthN, if_pos h2]; omega
      · rw [if_neg h2, depthM_is fuel (d + 1) _ h2, show d + 1 - 1 = d - 1 + 1 by omega]
/-- What the program's DepthOf answers. -/
def depthJ (X : Nat → Nd) (n : Nat) (id : Int) : Int := depthM X n 8 1 id
theorem depthJ_is {X : Nat → Nd} {n : Nat} {id : Int} (h : id ≠ 0 ∨ firstN X 0 n < 0) : depthJ X n id = depthI X n id := by
  by_cases h0 : id = 0
  · subst h0
    have h1 : firstN X 0 n < 0 := h.resolve_left (fun e => e rfl)
    unfold depthJ depthM depthI depthN
    rw [if_pos h1, if_pos rfl]
  · unfold depthJ depthI
    rw [depthM_is 8 1 id h0]
    rfl
theorem depthM_no {X : Nat → Nd} {n fuel : Nat} {d id : Int} (h : firstN X id n < 0) : depthM X n (fuel + 1) d id = 0 := by unfold depthM; rw [if_pos h]
theorem depthM_end {X : Nat → Nd} {n fuel k : Nat} {d id : Int} (h : firstN X id n = (k : Int)) (h2 : (X k).par = 0) : depthM X n (fuel + 1) d id = d := by
  rw [depthM, if_neg (by omega), h]; exact if_pos h2
theorem depthM_up {X : Nat → Nd} {n fuel k : Nat} {d id : Int} (h : firstN X id n = (k : Int)) (h2 : (X k).par ≠ 0) : depthM X n (fuel + 1) d id = depthM X n fuel (d + 1) (X k).par := by
  rw [depthM, if_neg (by omega), h]; exact if_neg h2
end Go.Proofs.YtdbphpekhmlmdaaGreatDoor

/-
  The program's paints: right colours, laid ones, right paints.
-/
namespace Go.Proofs.YtdbphpekhmlmdaaGreatDoor
open Go.RowKit
set_option linter.unusedVariables false

theorem implPartOk_any (x : Int) (w : World) :
    Calls Tryz.prog 72 #[.int .i64 x] w fun e w' => e = .returned (.bool (inB x 0 255)) ∧ w' = w := by
  by_cases h1 : 0 ≤ x
  · by_cases h2 : x ≤ 255
    · have H : Hid (true = inB x 0 255) := (inB_true.2 ⟨h1, h2⟩).symm
      go_enter Tryz.func72, Tryz.ntmps72
      go_wp2_with fail
      go_ret
      exact ⟨ret_bool (unhide H), rfl⟩
    · have H : Hid (false = inB x 0 255) := by unfold Hid inB; simp [h1, h2]
      go_enter Tryz.func72, Tryz.ntmps72
      go_wp2_with fail
      go_ret
      exact ⟨ret_bool (unhide H), rfl⟩
  · have H : Hid (false = inB x 0 255) := by unfold Hid inB; simp [h1]
    go_enter Tryz.func72, Tryz.ntmps72
    go_wp2_with fail
    go_ret
    exact ⟨ret_bool (unhide H), rfl⟩

set_option maxHeartbeats 4000000 in
set_option maxRecDepth 100000 in
theorem implColorOk_any (r g b a : Int) (w : World) :
    Calls Tryz.prog 106 #[.agg #[.int .i64 r, .int .i64 g, .int .i64 b, .int .i64 a]] w fun e w' => e = .returned (.bool (colorOkB ⟨r, g, b, a⟩)) ∧ Below w.heap.size w w' := by
  have E0 := hide (implPartOk_any r)
  have E1 := hide (implPartOk_any g)
  have E2 := hide (implPartOk_any b)
  have E3 := hide (implPartOk_any a)
  have H : Hid ((inB r 0 255 && (inB g 0 255 && (inB b 0 255 && inB a 0 255))) = colorOkB ⟨r, g, b, a⟩) := rfl
  generalize inB r 0 255 = i0 at E0 H
  generalize inB g 0 255 = i1 at E1 H
  generalize inB b 0 255 = i2 at E2 H
  generalize inB a 0 255 = i3 at E3 H
  generalize colorOkB ⟨r, g, b, a⟩ = X at H ⊢
  go_enter Tryz.func106, Tryz.ntmps106
  go_upto_region 1 with fail
  have R := hide (new_row w (.cells #[.int .i64 r, .int .i64 g, .int .i64 b, .int .i64 a] 41))
  have HB := hide (al1_below w (.cells #[.int .i64 r, .int .i64 g, .int .i64 b, .int .i64 a] 41))
  generalize w.alloc (.cells #[.int .i64 r, .int .i64 g, .int .i64 b, .int .i64 a] 41) = W at R HB ⊢
  obtain ⟨r0, r1, r2, r3⟩ := row4 (unhide R)
  go_wp2_with fail
  go_fit (unhide E0 _)
  rintro e u2 ⟨rfl, rfl⟩
  cases i0 with
  | false =>
    go_wp2_with fail
    go_ret
    exact ⟨ret_bool (unhide H), unhide HB⟩
  | true =>
  go_wp2_with fail
  go_fit (unhide E1 _)
  rintro e u2 ⟨rfl, rfl⟩
  cases i1 with
  | false =>
    go_wp2_with fail
    go_ret
    exact ⟨ret_bool (unhide H), unhide HB⟩
  | true =>
  go_wp2_with fail
  go_fit (unhide E2 _)
  rintro e u2 ⟨rfl, rfl⟩
  cases i2 with
  | false =>
    go_wp2_with fail
    go_ret
    exact ⟨ret_bool (unhide H), unhide HB⟩
  | true =>
  go_wp2_with fail
  go_fit (unhide E3 _)
  rintro e u2 ⟨rfl, rfl⟩
  go_wp2_with fail
  go_ret
  exact ⟨ret_bool (unhide H), unhide HB⟩

end Go.Proofs.YtdbphpekhmlmdaaGreatDoor

/-
  The program's paints: right paints.
-/
namespace Go.Proofs.YtdbphpekhmlmdaaGreatDoor
open Go.RowKit
set_option linter.unusedVariables false

theorem eqlColor_at (n : Nat) (a b c d e f g h : Int) (w : World) : (Op.equalIn (n + 2) 41 (.agg #[.int .i64 a, .int .i64 b, .int .i64 c, .int .i64 d]) (.agg #[.int .i64 e, .int .i64 f, .int .i64 g, .int .i64 h])).run Tryz.prog w = .ok (decide (a = e) && (decide (b = f) && (decide (c = g) && decide (d = h)))) w := by
  have u3 := Tryz.underlying3
  have a3 := Tryz.isAgg3
  have z3 := Tryz.sizeOf3
  have hS : Tryz.prog.underlying 41 = some (.struct (Tryz.prog.fieldsOf 41)) := by kernel_rfl
  rw [show n + 2 = (n + 1) + 1 from rfl, run_equalIn_agg w (n + 1) 41 _ _ hS (by kernel_rfl)]
  simp only [Program.fieldsOf, Tryz.underlying41]
  go_simp
  by_cases h1 : a = e
  · by_cases h2 : b = f
    · by_cases h3 : c = g
      · by_cases h4 : d = h <;> simp [h1, h2, h3, h4]
      · simp [h1, h2, h3]
    · simp [h1, h2]
  · simp [h1]

theorem eqlPt_at (n : Nat) (x y a b : Int) (w : World) : (Op.equalIn (n + 2) 43 (.agg #[.int .i64 x, .int .i64 y]) (.agg #[.int .i64 a, .int .i64 b])).run Tryz.prog w = .ok (decide (x = a) && decide (y = b)) w := by
  have u3 := Tryz.underlying3
  have a3 := Tryz.isAgg3
  have z3 := Tryz.sizeOf3
  have hS : Tryz.prog.underlying 43 = some (.struct (Tryz.prog.fieldsOf 43)) := by kernel_rfl
  rw [show n + 2 = (n + 1) + 1 from rfl, run_equalIn_agg w (n + 1) 43 _ _ hS (by kernel_rfl)]
  simp only [Program.fieldsOf, Tryz.underlying43]
  go_simp
  by_cases h1 : x = a <;> by_cases h2 : y = b <;> simp [h1, h2]

theorem eqlPlain (r g b a r2 g2 b2 a2 fx fy tx ty : Int) (w : World) : (Op.equalIn 10000 45 (.agg #[.int .i64 1, .int .i64 r, .int .i64 g, .int .i64 b, .int .i64 a, .int .i64 r2, .int .i64 g2, .int .i64 b2, .int .i64 a2, .int .i64 fx, .int .i64 fy, .int .i64 tx, .int .i64 ty]) (.agg #[.int .i64 1, .int .i64 r, .int .i64 g, .int .i64 b, .int .i64 a, .int .i64 0, .int .i64 0, .int .i64 0, .int .i64 0, .int .i64 0, .int .i64 0, .int .i64 0, .int .i64 0])).run Tryz.prog w = .ok (zeroB ⟨r2, g2, b2, a2⟩ && (decide (fx = 0 ∧ fy = 0) && decide (tx = 0 ∧ ty = 0))) w := by
  have u3 := Tryz.underlying3
  have a3 := Tryz.isAgg3
  have z3 := Tryz.sizeOf3
  have a4 := Tryz.isAgg41
  have z4 := Tryz.sizeOf41
  have a5 := Tryz.isAgg43
  have z5 := Tryz.sizeOf43
  have hS : Tryz.prog.underlying 45 = some (.struct (Tryz.prog.fieldsOf 45)) := by kernel_rfl
  have e1 := eqlColor_at 9997
  have e2 := eqlPt_at 9997
  rw [show (10000 : Nat) = 9999 + 1 from rfl, run_equalIn_agg w 9999 45 _ _ hS (by kernel_rfl)]
  simp only [Program.fieldsOf, Tryz.underlying45]
  go_simp
  unfold zeroB
  by_cases h1 : r2 = 0 <;> simp only [h1, true_implies, false_implies, decide_true, decide_false, Bool.true_and, Bool.false_and, if_true]
  by_cases h2 : g2 = 0 <;> simp only [h2, true_implies, false_implies, decide_true, decide_false, Bool.true_and, Bool.false_and, if_true]
  by_cases h3 : b2 = 0 <;> simp only [h3, true_implies, false_implies, decide_true, decide_false, Bool.true_and, Bool.false_and, if_true]
  by_cases h4 : a2 = 0 <;> simp only [h4, not_true, not_false_eq_true, if_true, if_false, decide_true, decide_false, Bool.true_and, Bool.false_and]
  by_cases h5 : fx = 0 <;> simp only [h5, true_implies, false_implies, decide_true, decide_false, Bool.true_and, Bool.false_and, if_true]
  by_cases h6 : fy = 0 <;> simp only [h6, not_true, not_false_eq_true, if_true, if_false, decide_true, decide_false, Bool.true_and, Bool.false_and]
  by_cases h7 : tx = 0 <;> simp only [h7, true_implies, false_implies, decide_true, decide_false, Bool.true_and, Bool.false_and, if_true]
  by_cases h8 : ty = 0 <;> simp only [h8, not_true, not_false_eq_true, if_true, if_false, decide_true, decide_false]

/-- Two points in a row of their own. -/
def twoPt (fx fy tx ty : Int) : Nat → Int × Int := fun i => if i = 0 then (fx, fy) else (tx, ty)
theorem twoPt_arg {w : World} {q : Nat} {fx fy tx ty : Int} {t : TypeId} (h : w.heap[q]? = some (.cells #[.int .i64 fx, .int .i64 fy, .int .i64 tx, .int .i64 ty] t (0, 0))) (i : Nat) (hi : i < 2) : PtArg w (some ⟨q, 0, none⟩) i (twoPt fx fy tx ty i) := by
  obtain ⟨c0, c1, c2, c3⟩ := row4 h
  match i, hi with
  | 0, _ => exact ⟨q, 0, rfl, c0, c1⟩
  | 1, _ => exact ⟨q, 0, rfl, c2, c3⟩
theorem twoPt_ok (fx fy tx ty : Int) : (pointOkB fx fy && pointOkB tx ty) = true ↔ ∀ i, i < 2 → pointOkB (twoPt fx fy tx ty i).1 (twoPt fx fy tx ty i).2 = true := by
  rw [Bool.and_eq_true]
  constructor
  · intro h i hi
    match i, hi with
    | 0, _ => exact h.1
    | 1, _ => exact h.2
  · intro h
    exact ⟨h 0 (by omega), h 1 (by omega)⟩

set_option maxHeartbeats 8000000 in
set_option maxRecDepth 100000 in
theorem implPaintOk_any (k r g b a r2 g2 b2 a2 fx fy tx ty : Int) (w : World) :
    Calls Tryz.prog 74 #[.agg #[.int .i64 k, .int .i64 r, .int .i64 g, .int .i64 b, .int .i64 a, .int .i64 r2, .int .i64 g2, .int .i64 b2, .int .i64 a2, .int .i64 fx, .int .i64 fy, .int .i64 tx, .int .i64 ty]] w fun e w' => e = .returned (.bool (paintOkB ⟨k, ⟨r, g, b, a⟩, ⟨r2, g2, b2, a2⟩, fx, fy, tx, ty⟩)) ∧ Below w.heap.size w w' := by
  have EF := hide (implColorOk_any r g b a)
  have EL := hide (implColorOk_any r2 g2 b2 a2)
  have EA : Hid (∀ (q : Nat) (u : World), u.heap[q]? = some (.cells #[.int .i64 fx, .int .i64 fy, .int .i64 tx, .int .i64 ty] 43 (0, 0)) → Calls Tryz.prog 104 #[.slice (some ⟨q, 0, none⟩) 2 2] u fun e w' => e = .returned (.bool (pointOkB fx fy && pointOkB tx ty)) ∧ Below u.heap.size u w') := fun q u h =>
    implAllRight_any (twoPt fx fy tx ty) _ 2 2 (by omega) u _ (twoPt_ok fx fy tx ty) (fun i hi => twoPt_arg h i hi)
  have H : Hid ((colorOkB ⟨r, g, b, a⟩ && ((decide (k = 1) && (zeroB ⟨r2, g2, b2, a2⟩ && (decide (fx = 0 ∧ fy = 0) && decide (tx = 0 ∧ ty = 0)))) || (decide (k = 2) && (colorOkB ⟨r2, g2, b2, a2⟩ && ((pointOkB fx fy && pointOkB tx ty) && !decide (fx = tx ∧ fy = ty)))))) = paintOkB ⟨k, ⟨r, g, b, a⟩, ⟨r2, g2, b2, a2⟩, fx, fy, tx, ty⟩) := by unfold Hid paintOkB; rw [Bool.and_assoc]
  have q1 : ∀ u, (Op.equalIn 10000 45 (.agg #[.int .i64 1, .int .i64 r, .int .i64 g, .int .i64 b, .int .i64 a, .int .i64 r2, .int .i64 g2, .int .i64 b2, .int .i64 a2, .int .i64 fx, .int .i64 fy, .int .i64 tx, .int .i64 ty]) (.agg #[.int .i64 1, .int .i64 r, .int .i64 g, .int .i64 b, .int .i64 a, .int .i64 0, .int .i64 0, .int .i64 0, .int .i64 0, .int .i64 0, .int .i64 0, .int .i64 0, .int .i64 0])).run Tryz.prog u = .ok (zeroB ⟨r2, g2, b2, a2⟩ && (decide (fx = 0 ∧ fy = 0) && decide (tx = 0 ∧ ty = 0))) u := fun u => eqlPlain r g b a r2 g2 b2 a2 fx fy tx ty u
  have q4 : ∀ u, (Op.equalIn 10000 43 (.agg #[.int .i64 fx, .int .i64 fy]) (.agg #[.int .i64 tx, .int .i64 ty])).run Tryz.prog u = .ok (decide (fx = tx ∧ fy = ty)) u := fun u => by rw [eqlPt, Bool.decide_and]
  generalize colorOkB ⟨r, g, b, a⟩ = X1 at EF H
  generalize (zeroB ⟨r2, g2, b2, a2⟩ && (decide (fx = 0 ∧ fy = 0) && decide (tx = 0 ∧ ty = 0))) = zl at q1 H
  generalize colorOkB ⟨r2, g2, b2, a2⟩ = X2 at EL H
  generalize (pointOkB fx fy && pointOkB tx ty) = X3 at EA H
  generalize decide (fx = tx ∧ fy = ty) = z3 at q4 H
  generalize paintOkB ⟨k, ⟨r, g, b, a⟩, ⟨r2, g2, b2, a2⟩, fx, fy, tx, ty⟩ = X at H ⊢
  go_enter Tryz.func74, Tryz.ntmps74
  go_upto_region 1 with fail
  have R1 := hide (new_row w (.cells #[.int .i64 k, .int .i64 r, .int .i64 g, .int .i64 b, .int .i64 a, .int .i64 r2, .int .i64 g2, .int .i64 b2, .int .i64 a2, .int .i64 fx, .int .i64 fy, .int .i64 tx, .int .i64 ty] 45))
  have HB := hide (al1_below w (.cells #[.int .i64 k, .int .i64 r, .int .i64 g, .int .i64 b, .int .i64 a, .int .i64 r2, .int .i64 g2, .int .i64 b2, .int .i64 a2, .int .i64 fx, .int .i64 fy, .int .i64 tx, .int .i64 ty] 45))
  obtain ⟨b1, hb1⟩ : ∃ b, Hid (b = w.heap.size) := ⟨_, rfl⟩
  rw [← unhide hb1] at R1
  rw [← unhide hb1]
  generalize w.alloc (.cells #[.int .i64 k, .int .i64 r, .int .i64 g, .int .i64 b, .int .i64 a, .int .i64 r2, .int .i64 g2, .int .i64 b2, .int .i64 a2, .int .i64 fx, .int .i64 fy, .int .i64 tx, .int .i64 ty] 45) = W at R1 HB ⊢
  clear hb1
  obtain ⟨c0, c1, c2, c3, c4, c5, c6, c7, c8, c9, c10, c11, c12⟩ := row13 (unhide R1)
  go_wp2_with fail
  go_fit (unhide EF _)
  rintro e w1 ⟨rfl, hb⟩
  replace R1 := hide (row_next hb (unhide R1))
  replace HB := hide (below_two (unhide HB) hb)
  clear hb c0 c1 c2 c3 c4 c5 c6 c7 c8 c9 c10 c11 c12
  obtain ⟨c0, c1, c2, c3, c4, c5, c6, c7, c8, c9, c10, c11, c12⟩ := row13 (unhide R1)
  cases X1 with
  | false =>
    go_wp2_with fail
    go_ret
    exact ⟨ret_bool (unhide H), unhide HB⟩
  | true =>
  by_cases hk1 : k = 1
  · subst hk1
    have hX := hide (show zl = X by have := unhide H; simpa using this)
    clear H
    go_wp2_with fail
    go_ret
    exact ⟨ret_bool (unhide hX), unhide HB⟩
  · have hkb : (k == 1) = false := beq_eq_false_iff_ne.2 hk1
    rw [decide_eq_false hk1] at H
    by_cases hk2 : k = 2
    · subst hk2
      have hX := hide (show (X2 && (X3 && !z3)) = X by have := unhide H; simpa using this)
      clear H
      go_wp2_with fail
      go_fit (unhide EL _)
      rintro e w2 ⟨rfl, hb⟩
      replace R1 := hide (row_next hb (unhide R1))
      replace HB := hide (below_two (unhide HB) hb)
      clear hb c0 c1 c2 c3 c4 c5 c6 c7 c8 c9 c10 c11 c12
      obtain ⟨c0, c1, c2, c3, c4, c5, c6, c7, c8, c9, c10, c11, c12⟩ := row13 (unhide R1)
      cases X2 with
      | false =>
        go_wp2_with fail
        go_ret
        exact ⟨ret_bool (unhide hX), unhide HB⟩
      | true =>
      go_wp2_with fail
      have R2 := hide (new_row w2 (.cells #[.int .i64 fx, .int .i64 fy, .int .i64 tx, .int .i64 ty] 43))
      replace R1 := hide (row_next (al1_below w2 (.cells #[.int .i64 fx, .int .i64 fy, .int .i64 tx, .int .i64 ty] 43)) (unhide R1))
      replace HB := hide (below_two (unhide HB) (al1_below w2 (.cells #[.int .i64 fx, .int .i64 fy, .int .i64 tx, .int .i64 ty] 43)))
      generalize w2.alloc (.cells #[.int .i64 fx, .int .i64 fy, .int .i64 tx, .int .i64 ty] 43) = W2 at R1 R2 HB ⊢
      go_fit (unhide EA _ _ (unhide R2))
      rintro e w3 ⟨rfl, hb⟩
      replace R1 := hide (row_next hb (unhide R1))
      replace HB := hide (below_two (unhide HB) hb)
      clear hb c0 c1 c2 c3 c4 c5 c6 c7 c8 c9 c10 c11 c12
      obtain ⟨c0, c1, c2, c3, c4, c5, c6, c7, c8, c9, c10, c11, c12⟩ := row13 (unhide R1)
      cases X3 with
      | false =>
        go_wp2_with fail
        go_ret
        exact ⟨ret_bool (unhide hX), unhide HB⟩
      | true =>
        go_wp2_with fail
        go_ret
        exact ⟨ret_bool (unhide hX), unhide HB⟩
    · have hkb2 : (k == 2) = false := beq_eq_false_iff_ne.2 hk2
      rw [decide_eq_false hk2] at H
      have hX := hide (show false = X by have := unhide H; simpa using this)
      go_wp2_with fail
      go_ret
      exact ⟨ret_bool (unhide hX), unhide HB⟩
end Go.Proofs.YtdbphpekhmlmdaaGreatDoor

/-
  The program's NeedOf, verbsFit and PathOk.
-/
namespace Go.Proofs.YtdbphpekhmlmdaaGreatDoor
open Go.RowKit

set_option maxHeartbeats 1000000 in
theorem implNeedOf_any (v : Int) (w : World) :
    Calls Tryz.prog 132 #[.int .i64 v] w fun r w' => r = .returned (.int .i64 (needI v)) ∧ Below w.heap.size w w' := by
  by_cases hv : isVerb v
  · have hk : needI v = needK v := needI_of hv
    rcases verb_cases hv with rfl | rfl | rfl | rfl | rfl
    all_goals
      clear hv
      rw [hk]
      clear hk
      go_enter Tryz.func132, Tryz.ntmps132
      go_wp2_with fail
      go_ret
      exact ⟨rfl, Below.refl _ _⟩
  · rw [show needI v = -1 from if_neg hv]
    have h1 : (v == 1) = false := by simp; intro e; exact hv (by rw [e]; decide)
    have h2 : (v == 2) = false := by simp; intro e; exact hv (by rw [e]; decide)
    have h3 : (v == 3) = false := by simp; intro e; exact hv (by rw [e]; decide)
    have h4 : (v == 4) = false := by simp; intro e; exact hv (by rw [e]; decide)
    have h5 : (v == 5) = false := by simp; intro e; exact hv (by rw [e]; decide)
    clear hv
    go_enter Tryz.func132, Tryz.ntmps132
    go_wp2_with fail
    go_ret
    exact ⟨rfl, Below.refl _ _⟩

def begunB (vf : Nat → Int) : Nat → Bool
  | 0 => false
  | k + 1 => vf k != 5
theorem begun_no {vf : Nat → Int} {k : Nat} : begunB vf k = false ↔ (k = 0 ∨ vf (k - 1) = 5) := by
  cases k with
  | zero => simp [begunB]
  | succ k => simp [begunB]
theorem begun_more {vf : Nat → Int} {k : Nat} {z : Int} (h : vf k = z) : begunB vf (k + 1) = (z != 5) := by rw [← h]; rfl

set_option maxHeartbeats 4000000 in
set_option maxRecDepth 100000 in
theorem implVerbsFit_any (vf : Nat → Int) (a : Option Addr) (n c p : Nat) (hn : n ≤ 24) (hp : p ≤ 24) (w : World)
    (x : Bool) (hx : x = true ↔ ((∀ j, j < n → VOk vf j) ∧ needN vf n = p)) (V : ∀ i, i < n → IntAt w a i (vf i)) :
    Calls Tryz.prog 105 #[.slice a n c, .int .i64 p] w fun r w' => r = .returned (.bool x) ∧ Below w.heap.size w w' := by
  replace hx := hide hx
  replace V := hide V
  go_enter Tryz.func105, Tryz.ntmps105
  go_wp2_with fail
  go_loopw [1, 5, 11] (fun s g i u => ∃ k : Nat, k ≤ n ∧ i = .int .i64 k ∧ s = .int .i64 ((p : Int) - (needN vf k : Nat)) ∧ g = .bool (begunB vf k) ∧ Hid (∀ j, j < k → VOk vf j) ∧ Below w.heap.size w u) (fun _ _ i _ => n - (intOf i).toNat)
  case atStart => exact ⟨0, Nat.zero_le _, rfl, by simp [needN], rfl, fun j hj => absurd hj (by omega), Below.refl _ _⟩
  case round =>
    obtain ⟨k, hk, rfl, rfl, rfl, HV, hb⟩ := hrel
    have hN := needN_le vf k
    by_cases hlt : k < n
    · have HZ := (unhide V k hlt).next hb
      have eg : Hid (begunB vf k = false ↔ (k = 0 ∨ vf (k - 1) = 5)) := begun_no
      generalize begunB vf k = g at eg ⊢
      generalize hz : vf k = z at HZ
      obtain ⟨s, o, rfl, g0⟩ := HZ
      have E := hide (implNeedOf_any z)
      replace hb := hide hb
      by_cases hv : isVerb z
      · rw [needI_of hv] at E
        have hkk := needK_le z
        have hneg : ¬ ((needK z : Int) < 0) := by omega
        have hw : IntKind.i64.wrap (((p : Int) - (needN vf k : Nat)) - (needK z : Int)) = (p : Int) - (needN vf k : Nat) - (needK z : Int) := IntWalk.i64_in _ (by omega)
        replace hz := hide hz
        go_wp2_with fail
        go_fit (unhide E _)
        rintro r w1 ⟨rfl, hb1⟩
        replace hb := hide (below_two (unhide hb) hb1)
        clear hb1 E
        cases g with
        | false =>
          by_cases hz1 : z = 1
          · have hzb : (z != 1) = false := by simp [hz1]
            replace hz1 := hide hz1
            go_wp2_with fail
            go_roundw
            case rel => exact ⟨k + 1, by omega, by go_num, by simp only [needN]; rw [unhide hz]; go_num, by rw [begun_more (unhide hz)], vok_more (unhide HV) ⟨by rw [unhide hz]; exact hv, fun _ => by rw [unhide hz]; exact unhide hz1⟩, unhide hb⟩
            case measure => simp [intOf]; omega
          · have hzb : (z != 1) = true := by simp [hz1]
            go_wp2_with fail
            go_ret
            exact ⟨bool_no (unhide hx) (fun h => absurd ((h.1 k hlt).2 ((unhide eg).1 (by first | rfl | trivial))) (by rw [unhide hz]; exact hz1)), unhide hb⟩
        | true =>
          go_wp2_with fail
          go_roundw
          case rel => exact ⟨k + 1, by omega, by go_num, by simp only [needN]; rw [unhide hz]; go_num, by rw [begun_more (unhide hz)], vok_more (unhide HV) ⟨by rw [unhide hz]; exact hv, fun h => absurd ((unhide eg).2 h) (by simp)⟩, unhide hb⟩
          case measure => simp [intOf]; omega
      · rw [show needI z = -1 from if_neg hv] at E
        go_wp2_with fail
        go_fit (unhide E _)
        rintro r w1 ⟨rfl, hb1⟩
        go_wp2_with fail
        go_ret
        exact ⟨bool_no (unhide hx) (fun h => absurd (h.1 k hlt).1 (by rw [hz]; exact hv)), below_two (unhide hb) hb1⟩
    · have hke : k = n := by omega
      subst hke
      by_cases hs : needN vf k = p
      · have hs' : (((p : Int) - (needN vf k : Nat)) == 0) = true := by simp; omega
        replace hs := hide hs
        replace hb := hide hb
        clear hN
        go_wp2_with fail
        go_ret
        exact ⟨bool_yes (unhide hx) ⟨unhide HV, unhide hs⟩, unhide hb⟩
      · have hs' : (((p : Int) - (needN vf k : Nat)) == 0) = false := by simp; omega
        replace hs := hide hs
        replace hb := hide hb
        clear hN
        go_wp2_with fail
        go_ret
        exact ⟨bool_no (unhide hx) (fun h => unhide hs h.2), unhide hb⟩

set_option maxHeartbeats 4000000 in
set_option maxRecDepth 100000 in
theorem implPathOk_any (vf : Nat → Int) (pf : Nat → Int × Int) (a b : Option Addr) (n c m d : Nat) (hn : n ≤ 1048576) (hm : m ≤ 1048576) (w : World)
    (x : Bool) (hx : x = true ↔ Right vf n pf m) (V : ∀ i, i < n → IntAt w a i (vf i)) (P : ∀ i, i < m → PtArg w b i (pf i)) :
    Calls Tryz.prog 69 #[.agg #[.slice a n c, .slice b m d]] w fun r w' => r = .returned (.bool x) ∧ Below w.heap.size w w' := by
  replace hx := hide hx
  replace V := hide V
  replace P := hide P
  by_cases h1 : 24 < n
  · have h1' : (24 : Int) < n := by omega
    go_enter Tryz.func69, Tryz.ntmps69
    go_wp2_with fail
    go_ret
    exact ⟨bool_no (unhide hx) (fun h => by have := h.nv24; omega), al1_below _ _⟩
  have h1' : ¬ (24 : Int) < n := by omega
  by_cases h2 : 24 < m
  · have h2' : (24 : Int) < m := by omega
    go_enter Tryz.func69, Tryz.ntmps69
    go_wp2_with fail
    go_ret
    exact ⟨bool_no (unhide hx) (fun h => by have := h.np24; omega), al1_below _ _⟩
  have h2' : ¬ (24 : Int) < m := by omega
  obtain ⟨y, hy⟩ : ∃ y : Bool, y = true ↔ ∀ i, i < m → pointOkB (pf i).1 (pf i).2 = true := by
    by_cases h : ∀ i, i < m → pointOkB (pf i).1 (pf i).2 = true
    · exact ⟨true, fun _ => h, fun _ => rfl⟩
    · exact ⟨false, fun e => (by cases e), fun e => absurd e h⟩
  have EA := hide (fun u P => implAllRight_any pf b m d hm u y hy P)
  replace hy := hide hy
  go_enter Tryz.func69, Tryz.ntmps69
  go_wp2_with fail
  obtain ⟨W, hW⟩ : ∃ W, W = w.alloc (.cells #[.slice a n c, .slice b m d] 39) := ⟨_, rfl⟩
  have R := hide (show W.heap[w.heap.size]? = some (.cells #[.slice a n c, .slice b m d] 39 (0, 0)) by rw [hW]; exact new_row _ _)
  have HB := hide (show Below w.heap.size w W by rw [hW]; exact al1_below _ _)
  rw [← hW]
  clear hW
  go_fit (unhide EA _ (fun i hi => (unhide P i hi).next (unhide HB)))
  rintro r w1 ⟨rfl, hb1⟩
  replace R := hide (row_next hb1 (unhide R))
  replace HB := hide (below_two (unhide HB) hb1)
  clear hb1 EA
  cases y with
  | false =>
    go_wp2_with fail
    go_ret
    exact ⟨bool_no (unhide hx) (fun h => by have := (unhide hy).2 h.points; cases this), unhide HB⟩
  | true =>
    obtain ⟨r0, r1⟩ := row2 (unhide R)
    have E := hide (fun u V => implVerbsFit_any vf a n c m (by omega) (by omega) u x ⟨fun h => ⟨((unhide hx).1 h).verbs, ((unhide hx).1 h).sum⟩, fun h => (unhide hx).2 ⟨by omega, by omega, h.1, (unhide hy).1 rfl, h.2⟩⟩ V)
    replace V := hide (fun i hi => (unhide V i hi).next (unhide HB))
    go_wp2_with fail
    go_fit (unhide E _ (unhide V))
    rintro r w2 ⟨rfl, hb2⟩
    go_wp2_with fail
    go_ret
    exact ⟨rfl, below_two (unhide HB) hb2⟩
end Go.Proofs.YtdbphpekhmlmdaaGreatDoor

/-
  The program's modeOk.
-/
namespace Go.Proofs.YtdbphpekhmlmdaaGreatDoor
open Go.RowKit
set_option linter.unusedVariables false

theorem implModeOk_any (x : Int) (w : World) :
    Calls Tryz.prog 71 #[.int .i64 x] w fun e w' => e = .returned (.bool (inB x 1 5)) ∧ w' = w := by
  by_cases h1 : 1 ≤ x
  · by_cases h2 : x ≤ 5
    · have H : Hid (true = inB x 1 5) := (inB_true.2 ⟨h1, h2⟩).symm
      go_enter Tryz.func71, Tryz.ntmps71
      go_wp2_with fail
      go_ret
      exact ⟨ret_bool (unhide H), rfl⟩
    · have H : Hid (false = inB x 1 5) := by unfold Hid inB; simp [h1, h2]
      go_enter Tryz.func71, Tryz.ntmps71
      go_wp2_with fail
      go_ret
      exact ⟨ret_bool (unhide H), rfl⟩
  · have H : Hid (false = inB x 1 5) := by unfold Hid inB; simp [h1]
    go_enter Tryz.func71, Tryz.ntmps71
    go_wp2_with fail
    go_ret
    exact ⟨ret_bool (unhide H), rfl⟩
end Go.Proofs.YtdbphpekhmlmdaaGreatDoor

/-
  The program's nodes: idsOk, modeOk, shapeless, NodeOk. (By nodei.py.)
-/
namespace Go.Proofs.YtdbphpekhmlmdaaGreatDoor
open Go.RowKit
set_option linter.unusedVariables false

def idsB (a b : Int) : Bool := inB a 1 99 && (inB b 0 99 && !decide (a = b))
def shapelessB (x : Nd) : Bool := noPaintB x.pt && (decide (x.nv = 0) && (decide (x.wd = 0) && (decide (x.nd = 0) && !x.ev)))
theorem right_none {vf : Nat → Int} {n : Nat} {pf : Nat → Int × Int} {m : Nat} (h : rightB vf n pf m = true) (hn : n = 0) : m = 0 := by
  subst hn
  obtain ⟨_, _, _, _, h5⟩ := rightB_iff.1 h
  exact h5.symm
theorem shapeless_is {x : Nd} (h : rightB x.vf x.nv x.pf x.np = true) : (noPathB x.nv x.np && (noPaintB x.pt && (decide (x.wd = 0) && (decide (x.nd = 0) && !x.ev)))) = shapelessB x := by
  unfold shapelessB noPathB
  by_cases hn : x.nv = 0
  · rw [decide_eq_true hn, decide_eq_true (right_none h hn)]
    simp
  · rw [decide_eq_false hn]
    simp
theorem nodeOk_is (x : Nd) : nodeOkB x = (idsB x.id x.par && (matOkB x.m0 x.m1 x.m2 x.m3 x.m4 x.m5 && (rightB x.vf x.nv x.pf x.np && (rightB x.wf x.mv x.qf x.mp && (inB x.wd 0 2048 && (dashOkB x.nd x.df && (inB x.md 1 5 && (inB x.fd 0 255 && (if x.gr = true then shapelessB x else paintOkB x.pt))))))))) := by
  unfold nodeOkB
  by_cases hr : rightB x.vf x.nv x.pf x.np = true
  · rw [shapeless_is hr]
    unfold idsB
    simp only [Bool.and_assoc]
  · have : rightB x.vf x.nv x.pf x.np = false := by simpa using hr
    rw [this]
    simp

theorem implIdsOk_any (a b : Int) (w : World) :
    Calls Tryz.prog 67 #[.int .i64 a, .int .i64 b] w fun e w' => e = .returned (.bool (idsB a b)) ∧ w' = w := by
  by_cases h1 : 1 ≤ a
  rotate_left
  · have H : Hid (false = idsB a b) := by unfold Hid idsB inB; simp [h1]
    go_enter Tryz.func67, Tryz.ntmps67
    go_wp2_with fail
    go_ret
    exact ⟨ret_bool (unhide H), rfl⟩
  by_cases h2 : a ≤ 99
  rotate_left
  · have H : Hid (false = idsB a b) := by unfold Hid idsB inB; simp [h2]
    go_enter Tryz.func67, Tryz.ntmps67
    go_wp2_with fail
    go_ret
    exact ⟨ret_bool (unhide H), rfl⟩
  by_cases h3 : 0 ≤ b
  rotate_left
  · have H : Hid (false = idsB a b) := by unfold Hid idsB inB; simp [h3]
    go_enter Tryz.func67, Tryz.ntmps67
    go_wp2_with fail
    go_ret
    exact ⟨ret_bool (unhide H), rfl⟩
  by_cases h4 : b ≤ 99
  rotate_left
  · have H : Hid (false = idsB a b) := by unfold Hid idsB inB; simp [h4]
    go_enter Tryz.func67, Tryz.ntmps67
    go_wp2_with fail
    go_ret
    exact ⟨ret_bool (unhide H), rfl⟩
  have H : Hid ((a != b) = idsB a b) := by
    unfold Hid idsB inB
    by_cases h5 : a = b <;> simp [h1, h2, h3, h4, h5]
  go_enter Tryz.func67, Tryz.ntmps67
  go_wp2_with fail
  go_ret
  exact ⟨ret_bool (unhide H), rfl⟩

set_option maxHeartbeats 8000000 in
set_option maxRecDepth 100000 in
theorem implShapeless_any (x : Nd) (s : Na) (w : World) : Calls Tryz.prog 73 #[.agg #[.int .i64 x.id, .int .i64 x.par, .bool x.gr, .int .i64 x.m0, .int .i64 x.m1, .int .i64 x.m2, .int .i64 x.m3, .int .i64 x.m4, .int .i64 x.m5, .slice s.av x.nv s.cv, .slice s.ap x.np s.cp, .bool x.ev, .int .i64 x.wd, .slice s.ad x.nd s.cd, .int .i64 x.pt.k, .int .i64 x.pt.f.x0, .int .i64 x.pt.f.y0, .int .i64 x.pt.f.x1, .int .i64 x.pt.f.y1, .int .i64 x.pt.l.x0, .int .i64 x.pt.l.y0, .int .i64 x.pt.l.x1, .int .i64 x.pt.l.y1, .int .i64 x.pt.fx, .int .i64 x.pt.fy, .int .i64 x.pt.tx, .int .i64 x.pt.ty, .int .i64 x.md, .int .i64 x.fd, .slice s.bv x.mv s.dv, .slice s.bp x.mp s.dp]] w fun r w' => r = .returned (.bool (shapelessB x)) ∧ Below w.heap.size w w' := by
  have q := eqlNone x.pt.k x.pt.f.x0 x.pt.f.y0 x.pt.f.x1 x.pt.f.y1 x.pt.l.x0 x.pt.l.y0 x.pt.l.x1 x.pt.l.y1 x.pt.fx x.pt.fy x.pt.tx x.pt.ty
  have hT : Hid (shapelessB x = (noPaintB x.pt && (decide (x.nv = 0) && (decide (x.wd = 0) && (decide (x.nd = 0) && !x.ev))))) := rfl
  generalize shapelessB x = T at hT ⊢
  have e : noPaintB ⟨x.pt.k, ⟨x.pt.f.x0, x.pt.f.y0, x.pt.f.x1, x.pt.f.y1⟩, ⟨x.pt.l.x0, x.pt.l.y0, x.pt.l.x1, x.pt.l.y1⟩, x.pt.fx, x.pt.fy, x.pt.tx, x.pt.ty⟩ = noPaintB x.pt := rfl
  rw [e] at q
  clear e
  generalize noPaintB x.pt = i1 at q hT
  go_enter Tryz.func73, Tryz.ntmps73
  go_upto_region 1 with fail
  have R := hide (new_row w (.cells #[.int .i64 x.id, .int .i64 x.par, .bool x.gr, .int .i64 x.m0, .int .i64 x.m1, .int .i64 x.m2, .int .i64 x.m3, .int .i64 x.m4, .int .i64 x.m5, .slice s.av x.nv s.cv, .slice s.ap x.np s.cp, .bool x.ev, .int .i64 x.wd, .slice s.ad x.nd s.cd, .int .i64 x.pt.k, .int .i64 x.pt.f.x0, .int .i64 x.pt.f.y0, .int .i64 x.pt.f.x1, .int .i64 x.pt.f.y1, .int .i64 x.pt.l.x0, .int .i64 x.pt.l.y0, .int .i64 x.pt.l.x1, .int .i64 x.pt.l.y1, .int .i64 x.pt.fx, .int .i64 x.pt.fy, .int .i64 x.pt.tx, .int .i64 x.pt.ty, .int .i64 x.md, .int .i64 x.fd, .slice s.bv x.mv s.dv, .slice s.bp x.mp s.dp] 47))
  have HB := hide (al1_below w (.cells #[.int .i64 x.id, .int .i64 x.par, .bool x.gr, .int .i64 x.m0, .int .i64 x.m1, .int .i64 x.m2, .int .i64 x.m3, .int .i64 x.m4, .int .i64 x.m5, .slice s.av x.nv s.cv, .slice s.ap x.np s.cp, .bool x.ev, .int .i64 x.wd, .slice s.ad x.nd s.cd, .int .i64 x.pt.k, .int .i64 x.pt.f.x0, .int .i64 x.pt.f.y0, .int .i64 x.pt.f.x1, .int .i64 x.pt.f.y1, .int .i64 x.pt.l.x0, .int .i64 x.pt.l.y0, .int .i64 x.pt.l.x1, .int .i64 x.pt.l.y1, .int .i64 x.pt.fx, .int .i64 x.pt.fy, .int .i64 x.pt.tx, .int .i64 x.pt.ty, .int .i64 x.md, .int .i64 x.fd, .slice s.bv x.mv s.dv, .slice s.bp x.mp s.dp] 47))
  generalize w.alloc (.cells #[.int .i64 x.id, .int .i64 x.par, .bool x.gr, .int .i64 x.m0, .int .i64 x.m1, .int .i64 x.m2, .int .i64 x.m3, .int .i64 x.m4, .int .i64 x.m5, .slice s.av x.nv s.cv, .slice s.ap x.np s.cp, .bool x.ev, .int .i64 x.wd, .slice s.ad x.nd s.cd, .int .i64 x.pt.k, .int .i64 x.pt.f.x0, .int .i64 x.pt.f.y0, .int .i64 x.pt.f.x1, .int .i64 x.pt.f.y1, .int .i64 x.pt.l.x0, .int .i64 x.pt.l.y0, .int .i64 x.pt.l.x1, .int .i64 x.pt.l.y1, .int .i64 x.pt.fx, .int .i64 x.pt.fy, .int .i64 x.pt.tx, .int .i64 x.pt.ty, .int .i64 x.md, .int .i64 x.fd, .slice s.bv x.mv s.dv, .slice s.bp x.mp s.dp] 47) = W at R HB ⊢
  obtain ⟨b1, hb1⟩ : ∃ z, Hid (z = w.heap.size) := ⟨_, rfl⟩
  rw [← unhide hb1] at R ⊢
  clear hb1
  obtain ⟨c0, c1, c2, c3, c4, c5, c6, c7, c8, c9, c10, c11, c12, c13, c14, c15, c16, c17, c18, c19, c20, c21, c22, c23, c24, c25, c26, c27, c28, c29, c30⟩ := row31 (unhide R)
  cases i1 with
  | false =>
    go_wp2_with fail
    go_ret
    exact ⟨ret_bool (by rw [unhide hT]; rfl), unhide HB⟩
  | true =>
  by_cases h1 : x.nv = 0
  rotate_left
  · have q1 : ((x.nv : Int) == 0) = false := beq_eq_false_iff_ne.2 (by omega)
    have hX := hide (show false = T by rw [unhide hT, decide_eq_false h1]; rfl)
    clear h1
    go_wp2_with fail
    go_ret
    exact ⟨ret_bool (unhide hX), unhide HB⟩
  have q1 : ((x.nv : Int) == 0) = true := beq_iff_eq.2 (by omega)
  by_cases h2 : x.wd = 0
  rotate_left
  · have q2 : (x.wd == 0) = false := beq_eq_false_iff_ne.2 h2
    have hX := hide (show false = T by rw [unhide hT, decide_eq_true h1, decide_eq_false h2]; rfl)
    clear h1 h2
    go_wp2_with fail
    go_ret
    exact ⟨ret_bool (unhide hX), unhide HB⟩
  have q2 : (x.wd == 0) = true := beq_iff_eq.2 h2
  by_cases h3 : x.nd = 0
  rotate_left
  · have q3 : ((x.nd : Int) == 0) = false := beq_eq_false_iff_ne.2 (by omega)
    have hX := hide (show false = T by rw [unhide hT, decide_eq_true h1, decide_eq_true h2, decide_eq_false h3]; rfl)
    clear h1 h2 h3
    go_wp2_with fail
    go_ret
    exact ⟨ret_bool (unhide hX), unhide HB⟩
  have q3 : ((x.nd : Int) == 0) = true := beq_iff_eq.2 (by omega)
  have hX := hide (show (!x.ev) = T by rw [unhide hT, decide_eq_true h1, decide_eq_true h2, decide_eq_true h3]; rfl)
  clear h1 h2 h3
  go_wp2_with fail
  go_ret
  exact ⟨ret_bool (unhide hX), unhide HB⟩

theorem implShapeless_c (x : Nd) (s : Na) (w : World) : Calls Tryz.prog 73 #[.agg (ndC x s)] w fun r w' => r = .returned (.bool (shapelessB x)) ∧ Below w.heap.size w w' := implShapeless_any x s w
theorem row_c {w : World} {b : Nat} {x : Nd} {s : Na} {t : TypeId} (h : w.heap[b]? = some (.cells #[.int .i64 x.id, .int .i64 x.par, .bool x.gr, .int .i64 x.m0, .int .i64 x.m1, .int .i64 x.m2, .int .i64 x.m3, .int .i64 x.m4, .int .i64 x.m5, .slice s.av x.nv s.cv, .slice s.ap x.np s.cp, .bool x.ev, .int .i64 x.wd, .slice s.ad x.nd s.cd, .int .i64 x.pt.k, .int .i64 x.pt.f.x0, .int .i64 x.pt.f.y0, .int .i64 x.pt.f.x1, .int .i64 x.pt.f.y1, .int .i64 x.pt.l.x0, .int .i64 x.pt.l.y0, .int .i64 x.pt.l.x1, .int .i64 x.pt.l.y1, .int .i64 x.pt.fx, .int .i64 x.pt.fy, .int .i64 x.pt.tx, .int .i64 x.pt.ty, .int .i64 x.md, .int .i64 x.fd, .slice s.bv x.mv s.dv, .slice s.bp x.mp s.dp] t (0, 0))) : w.heap[b]? = some (.cells (ndC x s) t (0, 0)) := h

set_option maxHeartbeats 8000000 in
set_option maxRecDepth 100000 in
theorem implNodeOk_any (x : Nd) (s : Na) (hs : x.Small) (w : World) (h : NdIn w x s) :
    Calls Tryz.prog 35 #[.agg #[.int .i64 x.id, .int .i64 x.par, .bool x.gr, .int .i64 x.m0, .int .i64 x.m1, .int .i64 x.m2, .int .i64 x.m3, .int .i64 x.m4, .int .i64 x.m5, .slice s.av x.nv s.cv, .slice s.ap x.np s.cp, .bool x.ev, .int .i64 x.wd, .slice s.ad x.nd s.cd, .int .i64 x.pt.k, .int .i64 x.pt.f.x0, .int .i64 x.pt.f.y0, .int .i64 x.pt.f.x1, .int .i64 x.pt.f.y1, .int .i64 x.pt.l.x0, .int .i64 x.pt.l.y0, .int .i64 x.pt.l.x1, .int .i64 x.pt.l.y1, .int .i64 x.pt.fx, .int .i64 x.pt.fy, .int .i64 x.pt.tx, .int .i64 x.pt.ty, .int .i64 x.md, .int .i64 x.fd, .slice s.bv x.mv s.dv, .slice s.bp x.mp s.dp]] w fun r w' => r = .returned (.bool (nodeOkB x)) ∧ Below w.heap.size w w' := by
  have E1 := hide (implIdsOk_any x.id x.par)
  have E4 := hide (implMatOk_any x.m0 x.m1 x.m2 x.m3 x.m4 x.m5)
  have E5 := hide (fun u => implPathOk_any x.vf x.pf s.av s.ap x.nv s.cv x.np s.cp hs.nv hs.np u _ rightB_iff)
  have E6 := hide (fun u => implPathOk_any x.wf x.qf s.bv s.bp x.mv s.dv x.mp s.dp hs.mv hs.mp u _ rightB_iff)
  have E8 := hide (fun u => implDashOk_any x.df s.ad x.nd s.cd hs.nd u)
  have E9 := hide (implModeOk_any x.md)
  have E10 := hide (implPartOk_any x.fd)
  have E11 := hide (implPaintOk_any x.pt.k x.pt.f.x0 x.pt.f.y0 x.pt.f.x1 x.pt.f.y1 x.pt.l.x0 x.pt.l.y0 x.pt.l.x1 x.pt.l.y1 x.pt.fx x.pt.fy x.pt.tx x.pt.ty)
  have E12 := hide (implShapeless_c x s)
  replace h := hide h
  rw [nodeOk_is]
  generalize idsB x.id x.par = i1 at E1 ⊢
  generalize matOkB x.m0 x.m1 x.m2 x.m3 x.m4 x.m5 = i4 at E4 ⊢
  generalize rightB x.vf x.nv x.pf x.np = i5 at E5 ⊢
  generalize rightB x.wf x.mv x.qf x.mp = i6 at E6 ⊢
  have h7 : Hid (∀ b, (inB x.wd 0 2048 && b) = (!(decide (x.wd < 0) || decide (2048 < x.wd)) && b)) := fun b => by
    congr 1
    unfold inB
    by_cases a1 : x.wd < 0
    · rw [decide_eq_true a1, decide_eq_false (by omega)]; rfl
    · rw [decide_eq_false a1, decide_eq_true (by omega)]
      by_cases a2 : 2048 < x.wd
      · rw [decide_eq_true a2, decide_eq_false (by omega)]; rfl
      · rw [decide_eq_false a2, decide_eq_true (by omega)]; rfl
  rw [unhide h7]
  clear h7
  generalize dashOkB x.nd x.df = i8 at E8 ⊢
  generalize inB x.md 1 5 = i9 at E9 ⊢
  generalize inB x.fd 0 255 = i10 at E10 ⊢
  obtain ⟨i7, hi7⟩ : ∃ z, Hid ((!(decide (x.wd < 0) || decide (2048 < x.wd))) = z) := ⟨_, rfl⟩
  rw [unhide hi7]
  obtain ⟨T, hT⟩ : ∃ z, Hid ((if x.gr = true then shapelessB x else paintOkB x.pt) = z) := ⟨_, rfl⟩
  rw [unhide hT]
  generalize hp : paintOkB x.pt = i11 at hT
  replace E11 := hide (show ∀ u, Calls Tryz.prog 74 #[.agg #[.int .i64 x.pt.k, .int .i64 x.pt.f.x0, .int .i64 x.pt.f.y0, .int .i64 x.pt.f.x1, .int .i64 x.pt.f.y1, .int .i64 x.pt.l.x0, .int .i64 x.pt.l.y0, .int .i64 x.pt.l.x1, .int .i64 x.pt.l.y1, .int .i64 x.pt.fx, .int .i64 x.pt.fy, .int .i64 x.pt.tx, .int .i64 x.pt.ty]] u fun e w' => e = .returned (.bool i11) ∧ Below u.heap.size u w' by rw [← hp]; exact unhide E11)
  clear hp
  generalize shapelessB x = i12 at E12 hT
  go_enter Tryz.func35, Tryz.ntmps35
  go_upto_region 1 with fail
  have R := hide (new_row w (.cells #[.int .i64 x.id, .int .i64 x.par, .bool x.gr, .int .i64 x.m0, .int .i64 x.m1, .int .i64 x.m2, .int .i64 x.m3, .int .i64 x.m4, .int .i64 x.m5, .slice s.av x.nv s.cv, .slice s.ap x.np s.cp, .bool x.ev, .int .i64 x.wd, .slice s.ad x.nd s.cd, .int .i64 x.pt.k, .int .i64 x.pt.f.x0, .int .i64 x.pt.f.y0, .int .i64 x.pt.f.x1, .int .i64 x.pt.f.y1, .int .i64 x.pt.l.x0, .int .i64 x.pt.l.y0, .int .i64 x.pt.l.x1, .int .i64 x.pt.l.y1, .int .i64 x.pt.fx, .int .i64 x.pt.fy, .int .i64 x.pt.tx, .int .i64 x.pt.ty, .int .i64 x.md, .int .i64 x.fd, .slice s.bv x.mv s.dv, .slice s.bp x.mp s.dp] 47))
  have HB := hide (al1_below w (.cells #[.int .i64 x.id, .int .i64 x.par, .bool x.gr, .int .i64 x.m0, .int .i64 x.m1, .int .i64 x.m2, .int .i64 x.m3, .int .i64 x.m4, .int .i64 x.m5, .slice s.av x.nv s.cv, .slice s.ap x.np s.cp, .bool x.ev, .int .i64 x.wd, .slice s.ad x.nd s.cd, .int .i64 x.pt.k, .int .i64 x.pt.f.x0, .int .i64 x.pt.f.y0, .int .i64 x.pt.f.x1, .int .i64 x.pt.f.y1, .int .i64 x.pt.l.x0, .int .i64 x.pt.l.y0, .int .i64 x.pt.l.x1, .int .i64 x.pt.l.y1, .int .i64 x.pt.fx, .int .i64 x.pt.fy, .int .i64 x.pt.tx, .int .i64 x.pt.ty, .int .i64 x.md, .int .i64 x.fd, .slice s.bv x.mv s.dv, .slice s.bp x.mp s.dp] 47))
  have HN := hide ((unhide h).next (al1_below w (.cells #[.int .i64 x.id, .int .i64 x.par, .bool x.gr, .int .i64 x.m0, .int .i64 x.m1, .int .i64 x.m2, .int .i64 x.m3, .int .i64 x.m4, .int .i64 x.m5, .slice s.av x.nv s.cv, .slice s.ap x.np s.cp, .bool x.ev, .int .i64 x.wd, .slice s.ad x.nd s.cd, .int .i64 x.pt.k, .int .i64 x.pt.f.x0, .int .i64 x.pt.f.y0, .int .i64 x.pt.f.x1, .int .i64 x.pt.f.y1, .int .i64 x.pt.l.x0, .int .i64 x.pt.l.y0, .int .i64 x.pt.l.x1, .int .i64 x.pt.l.y1, .int .i64 x.pt.fx, .int .i64 x.pt.fy, .int .i64 x.pt.tx, .int .i64 x.pt.ty, .int .i64 x.md, .int .i64 x.fd, .slice s.bv x.mv s.dv, .slice s.bp x.mp s.dp] 47)))
  clear h
  generalize w.alloc (.cells #[.int .i64 x.id, .int .i64 x.par, .bool x.gr, .int .i64 x.m0, .int .i64 x.m1, .int .i64 x.m2, .int .i64 x.m3, .int .i64 x.m4, .int .i64 x.m5, .slice s.av x.nv s.cv, .slice s.ap x.np s.cp, .bool x.ev, .int .i64 x.wd, .slice s.ad x.nd s.cd, .int .i64 x.pt.k, .int .i64 x.pt.f.x0, .int .i64 x.pt.f.y0, .int .i64 x.pt.f.x1, .int .i64 x.pt.f.y1, .int .i64 x.pt.l.x0, .int .i64 x.pt.l.y0, .int .i64 x.pt.l.x1, .int .i64 x.pt.l.y1, .int .i64 x.pt.fx, .int .i64 x.pt.fy, .int .i64 x.pt.tx, .int .i64 x.pt.ty, .int .i64 x.md, .int .i64 x.fd, .slice s.bv x.mv s.dv, .slice s.bp x.mp s.dp] 47) = W at R HB HN ⊢
  obtain ⟨b1, hb1⟩ : ∃ z, Hid (z = w.heap.size) := ⟨_, rfl⟩
  rw [← unhide hb1] at R ⊢
  clear hb1
  obtain ⟨c0, c1, c2, c3, c4, c5, c6, c7, c8, c9, c10, c11, c12, c13, c14, c15, c16, c17, c18, c19, c20, c21, c22, c23, c24, c25, c26, c27, c28, c29, c30⟩ := row31 (unhide R)
  go_wp2_with fail
  go_fit (unhide E1 _)
  rintro r u1 ⟨rfl, hu⟩
  rw [hu]
  clear hu u1 c0 c1 c2 c3 c4 c5 c6 c7 c8 c9 c10 c11 c12 c13 c14 c15 c16 c17 c18 c19 c20 c21 c22 c23 c24 c25 c26 c27 c28 c29 c30
  cases i1 with
  | false =>
    go_wp2_with fail
    go_ret
    exact ⟨rfl, unhide HB⟩
  | true =>
  obtain ⟨c0, c1, c2, c3, c4, c5, c6, c7, c8, c9, c10, c11, c12, c13, c14, c15, c16, c17, c18, c19, c20, c21, c22, c23, c24, c25, c26, c27, c28, c29, c30⟩ := row31 (unhide R)
  go_wp2_with fail
  go_fit (unhide E4 _)
  rintro r u1 ⟨rfl, hb⟩
  replace R := hide (row_next hb (unhide R))
  replace HN := hide ((unhide HN).next hb)
  replace HB := hide (below_two (unhide HB) hb)
  clear hb c0 c1 c2 c3 c4 c5 c6 c7 c8 c9 c10 c11 c12 c13 c14 c15 c16 c17 c18 c19 c20 c21 c22 c23 c24 c25 c26 c27 c28 c29 c30
  cases i4 with
  | false =>
    go_wp2_with fail
    go_ret
    exact ⟨rfl, unhide HB⟩
  | true =>
  obtain ⟨c0, c1, c2, c3, c4, c5, c6, c7, c8, c9, c10, c11, c12, c13, c14, c15, c16, c17, c18, c19, c20, c21, c22, c23, c24, c25, c26, c27, c28, c29, c30⟩ := row31 (unhide R)
  have F := hide (unhide E5 _ (unhide HN).v (unhide HN).p)
  go_wp2_with fail
  go_fit (unhide F)
  rintro r u1 ⟨rfl, hb⟩
  replace R := hide (row_next hb (unhide R))
  replace HN := hide ((unhide HN).next hb)
  replace HB := hide (below_two (unhide HB) hb)
  clear hb F c0 c1 c2 c3 c4 c5 c6 c7 c8 c9 c10 c11 c12 c13 c14 c15 c16 c17 c18 c19 c20 c21 c22 c23 c24 c25 c26 c27 c28 c29 c30
  cases i5 with
  | false =>
    go_wp2_with fail
    go_ret
    exact ⟨rfl, unhide HB⟩
  | true =>
  obtain ⟨c0, c1, c2, c3, c4, c5, c6, c7, c8, c9, c10, c11, c12, c13, c14, c15, c16, c17, c18, c19, c20, c21, c22, c23, c24, c25, c26, c27, c28, c29, c30⟩ := row31 (unhide R)
  have F := hide (unhide E6 _ (unhide HN).cv (unhide HN).cp)
  go_wp2_with fail
  go_fit (unhide F)
  rintro r u1 ⟨rfl, hb⟩
  replace R := hide (row_next hb (unhide R))
  replace HN := hide ((unhide HN).next hb)
  replace HB := hide (below_two (unhide HB) hb)
  clear hb F c0 c1 c2 c3 c4 c5 c6 c7 c8 c9 c10 c11 c12 c13 c14 c15 c16 c17 c18 c19 c20 c21 c22 c23 c24 c25 c26 c27 c28 c29 c30
  cases i6 with
  | false =>
    go_wp2_with fail
    go_ret
    exact ⟨rfl, unhide HB⟩
  | true =>
  by_cases a1 : x.wd < 0
  · have h7 : i7 = false := by rw [← unhide hi7, decide_eq_true a1]; rfl
    subst h7
    obtain ⟨c0, c1, c2, c3, c4, c5, c6, c7, c8, c9, c10, c11, c12, c13, c14, c15, c16, c17, c18, c19, c20, c21, c22, c23, c24, c25, c26, c27, c28, c29, c30⟩ := row31 (unhide R)
    go_wp2_with fail
    go_ret
    exact ⟨rfl, unhide HB⟩
  by_cases a2 : 2048 < x.wd
  · have h7 : i7 = false := by rw [← unhide hi7, decide_eq_false a1, decide_eq_true a2]; rfl
    subst h7
    obtain ⟨c0, c1, c2, c3, c4, c5, c6, c7, c8, c9, c10, c11, c12, c13, c14, c15, c16, c17, c18, c19, c20, c21, c22, c23, c24, c25, c26, c27, c28, c29, c30⟩ := row31 (unhide R)
    go_wp2_with fail
    go_ret
    exact ⟨rfl, unhide HB⟩
  have h7 : i7 = true := by rw [← unhide hi7, decide_eq_false a1, decide_eq_false a2]; rfl
  subst h7
  obtain ⟨c0, c1, c2, c3, c4, c5, c6, c7, c8, c9, c10, c11, c12, c13, c14, c15, c16, c17, c18, c19, c20, c21, c22, c23, c24, c25, c26, c27, c28, c29, c30⟩ := row31 (unhide R)
  have F := hide (unhide E8 _ (unhide HN).d)
  go_wp2_with fail
  go_fit (unhide F)
  rintro r u1 ⟨rfl, hu⟩
  rw [hu]
  clear hu u1 F c0 c1 c2 c3 c4 c5 c6 c7 c8 c9 c10 c11 c12 c13 c14 c15 c16 c17 c18 c19 c20 c21 c22 c23 c24 c25 c26 c27 c28 c29 c30
  cases i8 with
  | false =>
    go_wp2_with fail
    go_ret
    exact ⟨rfl, unhide HB⟩
  | true =>
  obtain ⟨c0, c1, c2, c3, c4, c5, c6, c7, c8, c9, c10, c11, c12, c13, c14, c15, c16, c17, c18, c19, c20, c21, c22, c23, c24, c25, c26, c27, c28, c29, c30⟩ := row31 (unhide R)
  go_wp2_with fail
  go_fit (unhide E9 _)
  rintro r u1 ⟨rfl, hu⟩
  rw [hu]
  clear hu u1 c0 c1 c2 c3 c4 c5 c6 c7 c8 c9 c10 c11 c12 c13 c14 c15 c16 c17 c18 c19 c20 c21 c22 c23 c24 c25 c26 c27 c28 c29 c30
  cases i9 with
  | false =>
    go_wp2_with fail
    go_ret
    exact ⟨rfl, unhide HB⟩
  | true =>
  obtain ⟨c0, c1, c2, c3, c4, c5, c6, c7, c8, c9, c10, c11, c12, c13, c14, c15, c16, c17, c18, c19, c20, c21, c22, c23, c24, c25, c26, c27, c28, c29, c30⟩ := row31 (unhide R)
  go_wp2_with fail
  go_fit (unhide E10 _)
  rintro r u1 ⟨rfl, hu⟩
  rw [hu]
  clear hu u1 c0 c1 c2 c3 c4 c5 c6 c7 c8 c9 c10 c11 c12 c13 c14 c15 c16 c17 c18 c19 c20 c21 c22 c23 c24 c25 c26 c27 c28 c29 c30
  cases i10 with
  | false =>
    go_wp2_with fail
    go_ret
    exact ⟨rfl, unhide HB⟩
  | true =>
  by_cases hg : x.gr = true
  · clear E11
    have q3 := (row31 (unhide R)).2.2.1
    rw [hg] at q3
    have hX := hide (show i12 = T by rw [← unhide hT, if_pos hg])
    clear hg
    go_upto_region 6 with fail
    clear q3
    go_wp2_with (refine load_own rfl _ rfl b1 rfl x s 47 (row_c (unhide R)) ?_)
    go_fit (unhide E12 _)
    rintro r u2 ⟨rfl, hb⟩
    replace HB := hide (below_two (unhide HB) hb)
    clear hb
    go_wp2_with fail
    go_ret
    exact ⟨ret_bool (unhide hX), unhide HB⟩
  · clear E12
    have hgf : x.gr = false := by simpa using hg
    obtain ⟨c0, c1, c2, c3, c4, c5, c6, c7, c8, c9, c10, c11, c12, c13, c14, c15, c16, c17, c18, c19, c20, c21, c22, c23, c24, c25, c26, c27, c28, c29, c30⟩ := row31 (unhide R)
    rw [hgf] at c2
    go_wp2_with fail
    go_fit (unhide E11 _)
    rintro r u2 ⟨rfl, hb⟩
    replace HB := hide (below_two (unhide HB) hb)
    clear hb c0 c1 c2 c3 c4 c5 c6 c7 c8 c9 c10 c11 c12 c13 c14 c15 c16 c17 c18 c19 c20 c21 c22 c23 c24 c25 c26 c27 c28 c29 c30
    have hX := hide (show i11 = T by rw [← unhide hT, if_neg hg])
    go_wp2_with fail
    go_ret
    exact ⟨ret_bool (unhide hX), unhide HB⟩
end Go.Proofs.YtdbphpekhmlmdaaGreatDoor

/-
  The program's scenes: NodeAt, KidsOf, standingOf, mayHold, depthOf, depthOk.
-/
namespace Go.Proofs.YtdbphpekhmlmdaaGreatDoor
open Go.RowKit
set_option linter.unusedVariables false

theorem implNodeAt1_any (x : Nd) (s : Na) (q : Nat) (id : Int) (w : World) (h : w.cell? ⟨q, 0, none⟩ = some (.int .i64 id)) :
    Calls Tryz.prog 33 #[.agg (ndC x s), .pointer (some ⟨q, 0, none⟩)] w fun r w' => r = .returned (.bool (x.id == id)) ∧ Below w.heap.size w w' := by
  go_enter Tryz.func33, Tryz.ntmps33
  go_upto_region 1 with fail
  have R := hide (new_row w (.cells (ndC x s) 47))
  have HB := hide (al1_below w (.cells (ndC x s) 47))
  have c1 := kc (unhide HB) h
  clear h
  generalize w.alloc (.cells (ndC x s) 47) = W at R HB c1 ⊢
  obtain ⟨b1, hb1⟩ : ∃ z, Hid (z = w.heap.size) := ⟨_, rfl⟩
  rw [← unhide hb1] at R ⊢
  clear hb1
  obtain ⟨c0, _, _⟩ := headsC (unhide R)
  go_wp2_with fail
  go_ret
  exact ⟨rfl, unhide HB⟩

set_option maxHeartbeats 4000000 in
set_option maxRecDepth 100000 in
theorem implIndexFunc_any (X : Nat → Nd) (A : Nat → Na) (ao : Option Addr) (n cp : Nat) (hn : n ≤ 1048576) (q : Nat) (id : Int) (w : World) (h : w.cell? ⟨q, 0, none⟩ = some (.int .i64 id)) (P : ∀ i, i < n → NrAt w ao i (X i) (A i)) :
    Calls Tryz.prog 32 #[.slice ao n cp, .func (.func 33) #[] #[.pointer (some ⟨q, 0, none⟩)]] w fun r w' => r = .returned (.int .i64 (firstN X id n)) ∧ Below w.heap.size w w' := by
  have hno : Hid ((∀ j, j < n → (X j).id ≠ id) → firstN X id n = -1) := first_none
  have hyes : Hid (∀ k, (∀ j, j < k → (X j).id ≠ id) → (X k).id = id → k < n → firstN X id n = (k : Int)) := fun k h1 h2 h3 => first_at h1 h2 h3
  generalize firstN X id n = Z at hno hyes ⊢
  replace P := hide P
  replace h := hide h
  go_enter Tryz.func32, Tryz.ntmps32
  go_upto_region 2 with fail
  go_loopw [8] (fun i u => ∃ k : Nat, k ≤ n ∧ i = .int .i64 (k : Int) ∧ Hid (Below w.heap.size w u) ∧ Hid (∀ j, j < k → (X j).id ≠ id)) (fun i _ => n - (intOf i).toNat)
  case atStart => exact ⟨0, Nat.zero_le _, rfl, Below.refl _ _, fun j hj => absurd hj (by omega)⟩
  case round =>
    obtain ⟨k, hk, rfl, HB, HK⟩ := hrel
    by_cases hkn : k < n
    · have hki : (k : Int) < (n : Int) := by omega
      have HP := hide ((unhide P k hkn).next (unhide HB))
      have E := hide (fun u (hu : Below wr.heap.size wr u) => implNodeAt1_any (X k) (A k) q id u (kc hu (kc (unhide HB) (unhide h))))
      have hyk := hide (unhide hyes k (unhide HK))
      have hmore : Hid ((X k).id ≠ id → ∀ j, j < k + 1 → (X j).id ≠ id) := fun hx j hj => by
        by_cases e : j = k
        · subst e; exact hx
        · exact unhide HK j (by omega)
      obtain ⟨xx, hxx⟩ : ∃ z, Hid (X k = z) := ⟨_, rfl⟩
      obtain ⟨ss, hss⟩ : ∃ z, Hid (A k = z) := ⟨_, rfl⟩
      rw [unhide hxx] at HP E hyk hmore
      rw [unhide hss] at HP E
      obtain ⟨b, o, hao, hrg⟩ := (unhide HP).range
      replace hrg := hide hrg
      subst hao
      go_wp2_with (refine load_node rfl _ rfl b (o + k * 31) rfl xx ss (unhide hrg) ?_)
      go_fit (unhide E _ (Below.refl _ _))
      rintro r u1 ⟨rfl, hb⟩
      replace HB := hide (below_two (unhide HB) hb)
      clear hb E hrg HP
      by_cases hx : xx.id = id
      · have hq : (xx.id == id) = true := beq_iff_eq.2 hx
        have hX := hide (unhide hyk hx hkn)
        clear hx
        go_wp2_with fail
        go_ret
        exact ⟨by rw [unhide hX]; rfl, unhide HB⟩
      · have hq : (xx.id == id) = false := beq_eq_false_iff_ne.2 hx
        have HK2 := hide (unhide hmore hx)
        clear hx
        go_wp2_with fail
        go_roundw
        case rel => exact ⟨k + 1, by omega, by go_num, HB, HK2⟩
        case measure => simp [intOf]; omega
    · have hke : k = n := by omega
      subst hke
      have hki : ¬ (k : Int) < (k : Int) := by omega
      have hX := hide (unhide hno (unhide HK))
      go_wp2_with fail
      go_ret
      exact ⟨by rw [unhide hX]; rfl, unhide HB⟩

set_option maxHeartbeats 4000000 in
set_option maxRecDepth 100000 in
theorem implNodeAt_any (X : Nat → Nd) (A : Nat → Na) (ao : Option Addr) (n cp : Nat) (hn : n ≤ 1048576) (id : Int) (w : World) (P : ∀ i, i < n → NrAt w ao i (X i) (A i)) :
    Calls Tryz.prog 10 #[.agg #[.slice ao n cp], .int .i64 id] w fun r w' => r = .returned (.int .i64 (firstN X id n)) ∧ Below w.heap.size w w' := by
  have E := hide (fun u q (h : u.cell? ⟨q, 0, none⟩ = some (.int .i64 id)) => implIndexFunc_any X A ao n cp hn q id u h)
  generalize firstN X id n = Z at E ⊢
  replace P := hide P
  go_enter Tryz.func10, Tryz.ntmps10
  go_upto_region 1 with fail
  have R := hide (old_row (.cells #[.int .i64 id] 3) (new_row w (.cells #[.slice ao n cp] 26)))
  have R2 := hide (new_row (w.alloc (.cells #[.slice ao n cp] 26)) (.cells #[.int .i64 id] 3))
  have HB := hide (al2_below w (.cells #[.slice ao n cp] 26) (.cells #[.int .i64 id] 3))
  rw [show (w.alloc (.cells #[.slice ao n cp] 26)).heap.size = w.heap.size + 1 from al1_size _ _] at R2
  generalize (w.alloc (.cells #[.slice ao n cp] 26)).alloc (.cells #[.int .i64 id] 3) = W at R R2 HB ⊢
  obtain ⟨b1, hb1⟩ : ∃ z, Hid (z = w.heap.size) := ⟨_, rfl⟩
  rw [← unhide hb1] at R R2 ⊢
  clear hb1
  have c0 := row1 (unhide R)
  have c1 := row1 (unhide R2)
  have E2 := hide (unhide E W (b1 + 1) c1 (fun i hi => (unhide P i hi).next (unhide HB)))
  go_wp2_with fail
  go_fit (unhide E2)
  rintro r u1 ⟨rfl, hb⟩
  replace HB := hide (below_two (unhide HB) hb)
  go_wp2_with fail
  go_ret
  exact ⟨rfl, unhide HB⟩

theorem Stand.put_at {w : World} {m n : Nat} {b o : Nat} {X : Nat → Nd} (h : Stand w m (some ⟨b, o, none⟩) X n) (hn : n ≤ 1048576) (hf : firstN X (X n).id n < 0) (hz : (Lit.int .i64 (X n).id).wf = true) :
    ∃ w', (Instr.mapUpdate 71 (.map (some m)) (.int .i64 (X n).id) (.pointer (some ⟨b, o + n * 31, none⟩))).run Tryz.prog w = .ok () w' ∧ Stand w' m (some ⟨b, o, none⟩) X (n + 1) ∧ w.grownBy w' (some m) := h.put hn hf hz

set_option maxHeartbeats 4000000 in
set_option maxRecDepth 100000 in
theorem implStandingOf_any (X : Nat → Nd) (A : Nat → Na) (ao : Option Addr) (n cp : Nat) (hn : n ≤ 1048576) (hf : ∀ i, i < n → (Lit.int .i64 (X i).id).wf = true) (w : World) (P : ∀ i, i < n → NrAt w ao i (X i) (A i)) :
    Calls Tryz.prog 34 #[.agg #[.slice ao n cp]] w fun r w' => ∃ m, r = .returned (.map (some m)) ∧ Stand w' m ao X n ∧ w.heap.size ≤ m ∧ Below w.heap.size w w' := by
  have hmm := @run_makeMap Tryz.prog
  replace P := hide P
  replace hf := hide hf
  go_enter Tryz.func34, Tryz.ntmps34
  go_upto_region 1 with fail
  have R := hide (new_row w (.cells #[.slice ao n cp] 26))
  have HB := hide (al1_below w (.cells #[.slice ao n cp] 26))
  have hm := hide (show w.heap.size < (w.alloc (.cells #[.slice ao n cp] 26)).heap.size by rw [al1_size]; omega)
  generalize w.alloc (.cells #[.slice ao n cp] 26) = W at R HB hm ⊢
  obtain ⟨b1, hb1⟩ : ∃ z, Hid (z = w.heap.size) := ⟨_, rfl⟩
  rw [← unhide hb1] at R hm ⊢
  go_upto_region 2 with fail
  have S := hide (Stand.made W ao X)
  replace R := hide (row_next (al1_below W (.map #[] 0)) (unhide R))
  replace HB := hide (below_two (unhide HB) (al1_below W (.map #[] 0)))
  generalize W.alloc (.map #[] 0) = W2 at R HB S ⊢
  generalize W.heap.size = m at S hm ⊢
  clear hmm
  have c0 := row1 (unhide R)
  go_upto_region 3 with fail
  clear c0
  go_loopw [10] (fun i u => ∃ k : Nat, k ≤ n ∧ i = .int .i64 (k : Int) ∧ Hid (Stand u m ao X k) ∧ Hid (u.heap[b1]? = some (.cells #[.slice ao n cp] 26 (0, 0))) ∧ Hid (Below w.heap.size w u)) (fun i _ => n - (intOf i).toNat)
  case atStart => exact ⟨0, Nat.zero_le _, rfl, S, R, HB⟩
  case round =>
    clear S R HB
    obtain ⟨k, hk, rfl, S, R, HB⟩ := hrel
    have c0 := row1 (unhide R)
    by_cases hkn : k < n
    · have hki : (k : Int) < (n : Int) := by omega
      have hfk := hide (unhide hf k hkn)
      obtain ⟨b, o, hao, g0, g1, g2⟩ := ((unhide P k hkn).next (unhide HB)).heads
      subst hao
      have hl := (unhide S).look (X k).id (unhide hfk)
      by_cases hx : firstN X (X k).id k < 0
      · rw [stP_none hx] at hl
        obtain ⟨w1, hrun, S1, hg⟩ := (unhide S).put_at (by omega) hx (unhide hfk)
        have S1 := hide S1
        have R1 := hide (show w1.heap[b1]? = some (.cells #[.slice (some ⟨b, o, none⟩) n cp] 26 (0, 0)) from (hg.block b1 (heap_lt (unhide R)) (by have := unhide hm; intro e; cases e; omega)).trans (unhide R))
        have HB1 := hide (show Below w.heap.size w w1 from (unhide HB).grown hg (unhide HB).size (fun j hj => by cases hj; have := unhide hm; have := unhide hb1; omega))
        clear hx hg hfk
        go_wp2_with fail
        go_roundw
        case rel => exact ⟨k + 1, by omega, by go_num, S1, R1, HB1⟩
        case measure => simp [intOf]; omega
      · obtain ⟨j, hj, hfj⟩ : ∃ j, j < k ∧ firstN X (X k).id k = (j : Int) := by
          rcases first_is (X := X) (id := (X k).id) k with ⟨e, _⟩ | ⟨j, hj, e, _⟩
          · omega
          · exact ⟨j, hj, e⟩
        rw [stP_at hfj] at hl
        have S1 := hide ((unhide S).skip hx)
        clear hx hfj hfk
        go_wp2_with fail
        go_roundw
        case rel => exact ⟨k + 1, by omega, by go_num, S1, R, HB⟩
        case measure => simp [intOf]; omega
    · have hke : k = n := by omega
      subst hke
      have hki : ¬ (k : Int) < (k : Int) := by omega
      go_wp2_with fail
      go_ret
      exact ⟨m, rfl, unhide S, by have := unhide hm; have := unhide hb1; omega, unhide HB⟩

def holdB (X : Nat → Nd) (n : Nat) (p : Int) : Bool := decide (p = 0) || (decide (0 ≤ firstN X p n) && (X (firstN X p n).toNat).gr)
set_option maxHeartbeats 4000000 in
set_option maxRecDepth 100000 in
theorem implMayHold_any (X : Nat → Nd) (A : Nat → Na) (ao : Option Addr) (n m : Nat) (p : Int) (hp : (Lit.int .i64 p).wf = true) (w : World) (S : Stand w m ao X n) (P : ∀ i, i < n → NrAt w ao i (X i) (A i)) :
    Calls Tryz.prog 36 #[.map (some m), .int .i64 p] w fun r w' => r = .returned (.bool (holdB X n p)) ∧ w' = w := by
  have hT : Hid (holdB X n p = (decide (p = 0) || (decide (0 ≤ firstN X p n) && (X (firstN X p n).toNat).gr))) := rfl
  generalize holdB X n p = T at hT ⊢
  have hl := S.look p hp
  replace P := hide P
  by_cases h0 : p = 0
  · have hq : (p == 0) = true := beq_iff_eq.2 h0
    have hX := hide (show true = T by rw [unhide hT, decide_eq_true h0]; rfl)
    clear h0 hl
    go_enter Tryz.func36, Tryz.ntmps36
    go_wp2_with fail
    go_ret
    exact ⟨ret_bool (unhide hX), rfl⟩
  · have hq : (p == 0) = false := beq_eq_false_iff_ne.2 h0
    rcases first_is (X := X) (id := p) n with ⟨e, _⟩ | ⟨j, hj, e, _, _⟩
    · rw [stP_none (by omega)] at hl
      have hX := hide (show false = T by rw [unhide hT, decide_eq_false h0, decide_eq_false (by omega)]; rfl)
      clear h0 e
      go_enter Tryz.func36, Tryz.ntmps36
      go_wp2_with fail
      go_ret
      exact ⟨ret_bool (unhide hX), rfl⟩
    · obtain ⟨b, o, hao, g0, g1, g2⟩ := (unhide P j hj).heads
      subst hao
      rw [stP_at e] at hl
      have hX := hide (show (X j).gr = T by rw [unhide hT, decide_eq_false h0, decide_eq_true (by omega), e]; rfl)
      clear h0 e
      go_enter Tryz.func36, Tryz.ntmps36
      go_wp2_with fail
      go_ret
      exact ⟨ret_bool (unhide hX), rfl⟩

theorem implDepthOk_any (x : Int) (w : World) :
    Calls Tryz.prog 37 #[.int .i64 x] w fun e w' => e = .returned (.bool (inB x 1 4)) ∧ w' = w := by
  by_cases h1 : 1 ≤ x
  · by_cases h2 : x ≤ 4
    · have H : Hid (true = inB x 1 4) := (inB_true.2 ⟨h1, h2⟩).symm
      go_enter Tryz.func37, Tryz.ntmps37
      go_wp2_with fail
      go_ret
      exact ⟨ret_bool (unhide H), rfl⟩
    · have H : Hid (false = inB x 1 4) := by unfold Hid inB; simp [h1, h2]
      go_enter Tryz.func37, Tryz.ntmps37
      go_wp2_with fail
      go_ret
      exact ⟨ret_bool (unhide H), rfl⟩
  · have H : Hid (false = inB x 1 4) := by unfold Hid inB; simp [h1]
    go_enter Tryz.func37, Tryz.ntmps37
    go_wp2_with fail
    go_ret
    exact ⟨ret_bool (unhide H), rfl⟩

set_option maxHeartbeats 4000000 in
set_option maxRecDepth 100000 in
theorem implDepthOfM_any (X : Nat → Nd) (A : Nat → Na) (ao : Option Addr) (n m : Nat) (hf : ∀ i, i < n → (Lit.int .i64 (X i).par).wf = true) (id : Int) (hid : (Lit.int .i64 id).wf = true) (w : World) (S : Stand w m ao X n) (P : ∀ i, i < n → NrAt w ao i (X i) (A i)) :
    Calls Tryz.prog 38 #[.map (some m), .int .i64 id] w fun r w' => r = .returned (.int .i64 (depthJ X n id)) ∧ w' = w := by
  have hZ : Hid (depthM X n 8 1 id = depthJ X n id) := rfl
  generalize depthJ X n id = Z at hZ ⊢
  replace P := hide P
  replace hf := hide hf
  replace S := hide S
  go_enter Tryz.func38, Tryz.ntmps38
  go_upto_region 2 with fail
  go_loopw [5, 1] (fun i d u => ∃ (k fuel : Nat) (z : Int), k + fuel = 9 ∧ i = .int .i64 (k : Int) ∧ 1 ≤ k ∧ d = .int .i64 z ∧ Hid ((Lit.int .i64 z).wf = true) ∧ Hid (depthM X n fuel (k : Int) z = Z) ∧ u = w) (fun i _ _ => 9 - (intOf i).toNat)
  case atStart => exact ⟨1, 8, id, rfl, rfl, Nat.le_refl _, rfl, hid, hZ, rfl⟩
  case round =>
    clear hZ hid
    obtain ⟨k, fuel, z, hfu, rfl, hk1, rfl, hzw, hZ, rfl⟩ := hrel
    cases fuel with
    | zero =>
      have hki : ¬ (k : Int) ≤ 8 := by omega
      go_wp2_with fail
      go_ret
      exact ⟨by rw [← unhide hZ]; rfl, rfl⟩
    | succ fuel =>
      have hki : (k : Int) ≤ 8 := by omega
      have hk8 : k ≤ 8 := by omega
      have hl := (unhide S).look z (unhide hzw)
      rcases first_is (X := X) (id := z) n with ⟨e, _⟩ | ⟨j, hj, e, _, _⟩
      · rw [stP_none (by omega)] at hl
        have hX := hide (show 0 = Z by rw [← unhide hZ, depthM_no (by omega)])
        clear e
        go_wp2_with fail
        go_ret
        exact ⟨by rw [← unhide hX]; rfl, rfl⟩
      · obtain ⟨b, o, hao, g0, g1, g2⟩ := (unhide P j hj).heads
        subst hao
        rw [stP_at e] at hl
        by_cases h0 : (X j).par = 0
        · have hq : ((X j).par == 0) = true := beq_iff_eq.2 h0
          have hX := hide (show (k : Int) = Z by rw [← unhide hZ, depthM_end e h0])
          clear e h0
          go_wp2_with fail
          go_ret
          exact ⟨by rw [← unhide hX]; rfl, rfl⟩
        · have hq : ((X j).par == 0) = false := beq_eq_false_iff_ne.2 h0
          have hX := hide (show depthM X n fuel ((k : Int) + 1) (X j).par = Z by rw [← unhide hZ, depthM_up e h0])
          have hzw2 := hide (unhide hf j hj)
          clear e h0
          go_wp2_with fail
          go_roundw
          case rel => exact ⟨k + 1, fuel, _, by omega, by go_num, by omega, rfl, hzw2, hX, by trivial⟩
          case measure => simp [intOf]; omega
end Go.Proofs.YtdbphpekhmlmdaaGreatDoor

/-
  The program's SceneOk.
-/
namespace Go.Proofs.YtdbphpekhmlmdaaGreatDoor
open Go.RowKit
set_option linter.unusedVariables false

theorem implNodeOk_c (x : Nd) (s : Na) (hs : x.Small) (w : World) (h : NdIn w x s) :
    Calls Tryz.prog 35 #[.agg (ndC x s)] w fun r w' => r = .returned (.bool (nodeOkB x)) ∧ Below w.heap.size w w' := implNodeOk_any x s hs w h
theorem okAt_hold {X : Nat → Nd} {n k : Nat} (hf : firstN X (X k).id n = (k : Int)) : okAt X n k = (nodeOkB (X k) && (holdB X n (X k).par && inB (depthJ X n (X k).id) 1 4)) := by
  unfold okAt
  cases hb : nodeOkB (X k) with
  | false => rfl
  | true =>
    have hid : (X k).id ≠ 0 := by
      rw [nodeOk_is] at hb
      simp only [Bool.and_eq_true] at hb
      have h1 := hb.1
      unfold idsB at h1
      simp only [Bool.and_eq_true, inB_true] at h1
      omega
    rw [decide_eq_true hf, depthJ_is (.inl hid)]
    show (true && (true && (inB (depthI X n (X k).id) 1 4 && holdB X n (X k).par))) = _
    simp [Bool.and_comm]

set_option maxHeartbeats 8000000 in
set_option maxRecDepth 100000 in
theorem implSceneOk_any (X : Nat → Nd) (A : Nat → Na) (ao : Option Addr) (n cp : Nat) (hn : n ≤ 1048576) (hs : ∀ i, i < n → (X i).Small) (hw1 : ∀ i, i < n → (Lit.int .i64 (X i).id).wf = true) (hw2 : ∀ i, i < n → (Lit.int .i64 (X i).par).wf = true) (w : World) (P : ∀ i, i < n → NrAt w ao i (X i) (A i)) :
    Calls Tryz.prog 11 #[.agg #[.slice ao n cp]] w fun r w' => r = .returned (.bool (sceneOkB X n)) ∧ Below w.heap.size w w' := by
  have hyes : Hid (n ≤ 8 → (∀ i, i < n → okAt X n i = true) → sceneOkB X n = true) := fun h1 h2 => sceneOk_iff.2 ⟨h1, h2⟩
  have hbig : Hid (¬ n ≤ 8 → sceneOkB X n = false) := fun h => sceneOk_no (fun e => h e.1)
  have hno : Hid (∀ i, i < n → okAt X n i = false → sceneOkB X n = false) := fun i hi h => sceneOk_no (fun e => by have := e.2 i hi; rw [h] at this; cases this)
  have htwo : Hid (firsts X n ≠ n → sceneOkB X n = false) := fun h => by
    obtain ⟨i, hi, e⟩ := firsts_no h
    exact unhide hno i hi (by unfold okAt; rw [decide_eq_false e]; simp)
  generalize sceneOkB X n = Z at hyes hbig hno htwo ⊢
  have ES := hide (fun u => implStandingOf_any X A ao n cp hn hw1 u)
  replace P := hide P
  replace hs := hide hs
  replace hw1 := hide hw1
  replace hw2 := hide hw2
  go_enter Tryz.func11, Tryz.ntmps11
  go_upto_region 1 with fail
  have R := hide (new_row w (.cells #[.slice ao n cp] 26))
  have HB := hide (al1_below w (.cells #[.slice ao n cp] 26))
  obtain ⟨b1, hb1⟩ : ∃ z, Hid (z = w.heap.size) := ⟨_, rfl⟩
  rw [← unhide hb1] at R ⊢
  clear hb1
  generalize w.alloc (.cells #[.slice ao n cp] 26) = W at R HB ⊢
  have c0 := row1 (unhide R)
  by_cases h8 : n ≤ 8
  rotate_left
  · have h8i : (8 : Int) < (n : Int) := by omega
    have hX := hide (unhide hbig h8)
    go_wp2_with fail
    go_ret
    exact ⟨ret_bool (unhide hX).symm, unhide HB⟩
  have h8i : ¬ (8 : Int) < (n : Int) := by omega
  have E1 := hide (unhide ES W (fun i hi => (unhide P i hi).next (unhide HB)))
  go_wp2_with fail
  go_fit (unhide E1)
  rintro r u1 ⟨m, rfl, S, _, hb⟩
  replace S := hide S
  replace R := hide (row_next hb (unhide R))
  replace HB := hide (below_two (unhide HB) hb)
  clear hb c0 E1 ES
  have c0 := row1 (unhide R)
  have hlen := (unhide S).len
  by_cases h9 : firsts X n = n
  rotate_left
  · have hX := hide (unhide htwo h9)
    have hq : (((firsts X n : Nat) : Int) == (n : Int)) = false := beq_eq_false_iff_ne.2 (by omega)
    go_wp2_with fail
    go_ret
    exact ⟨ret_bool (unhide hX).symm, unhide HB⟩
  have hfst := hide (firsts_all h9)
  rw [h9] at hlen
  clear h9
  go_upto_region 7 with fail
  clear c0 hlen
  go_loopw [21] (fun i u => ∃ k : Nat, k ≤ n ∧ i = .int .i64 (k : Int) ∧ Hid (∀ j, j < k → okAt X n j = true) ∧ Hid (Below u1.heap.size u1 u)) (fun i _ => n - (intOf i).toNat)
  case atStart => exact ⟨0, Nat.zero_le _, rfl, fun j hj => absurd hj (by omega), Below.refl _ _⟩
  case round =>
    obtain ⟨k, hk, rfl, HK, D⟩ := hrel
    by_cases hkn : k < n
    · have hki : (k : Int) < (n : Int) := by omega
      replace HB := hide (below_two (unhide HB) (unhide D))
      have HP := hide ((unhide P k hkn).next (unhide HB))
      have hsk := hide (unhide hs k hkn)
      have hval := hide (okAt_hold (unhide hfst k hkn))
      have hnok := hide (unhide hno k hkn)
      have hmore : Hid (okAt X n k = true → ∀ j, j < k + 1 → okAt X n j = true) := fun h j hj => by
        by_cases e : j = k
        · subst e; exact h
        · exact unhide HK j (by omega)
      have hv1 := hide (unhide hw1 k hkn)
      have hv2 := hide (unhide hw2 k hkn)
      obtain ⟨xx, hxx⟩ : ∃ z, Hid (X k = z) := ⟨_, rfl⟩
      obtain ⟨ss, hss⟩ : ∃ z, Hid (A k = z) := ⟨_, rfl⟩
      rw [unhide hxx, unhide hss] at HP
      rw [unhide hxx] at hsk hval hv1 hv2
      obtain ⟨b, o, hao, hrg⟩ := (unhide HP).range
      replace hrg := hide hrg
      subst hao
      as_aux_lemma =>
      go_upto_region 9 with (first | refine load_node rfl _ rfl b (o + k * 31) rfl xx ss (unhide hrg) ?_ | refine store_new rfl _ _ rfl _ xx ss rfl rfl rfl ?_)
      have R4 := hide (new_row wr (.cells (ndC xx ss) 47))
      have D4 := hide (al1_below wr (.cells (ndC xx ss) 47))
      have HI := hide ((unhide HP).inn.next (unhide D4))
      replace HB := hide (below_two (unhide HB) (unhide D4))
      replace D := hide (below_two (unhide D) (unhide D4))
      clear hrg HP D4
      generalize wr.alloc (.cells (ndC xx ss) 47) = W4 at R4 HB HI D ⊢
      generalize wr.heap.size = b4 at R4 ⊢
      as_aux_lemma =>
      have E1 := hide (implNodeOk_c xx ss (unhide hsk) W4 (unhide HI))
      generalize nodeOkB xx = i1 at E1 hval
      go_wp2_with (refine load_own rfl _ rfl b4 rfl xx ss 47 (unhide R4) ?_)
      go_fit (unhide E1)
      rintro r u2 ⟨rfl, hb⟩
      replace R4 := hide (row_next hb (unhide R4))
      replace HB := hide (below_two (unhide HB) hb)
      replace D := hide (below_two (unhide D) hb)
      clear hb E1 HI
      cases i1 with
      | false =>
        have hX := hide (unhide hnok (by rw [unhide hval]; rfl))
        go_wp2_with fail
        go_ret
        exact ⟨ret_bool (unhide hX).symm, unhide HB⟩
      | true =>
      as_aux_lemma =>
      obtain ⟨c0, c1, c2⟩ := headsC (unhide R4)
      have S2 := hide ((unhide S).next (unhide D))
      have E2 := hide (implMayHold_any X A _ n m xx.par (unhide hv2) u2 (unhide S2) (fun i hi => (unhide P i hi).next (unhide HB)))
      have E3 := hide (implDepthOfM_any X A _ n m (unhide hw2) xx.id (unhide hv1) u2 (unhide S2) (fun i hi => (unhide P i hi).next (unhide HB)))
      generalize holdB X n xx.par = i2 at E2 hval
      generalize depthJ X n xx.id = dp at E3 hval
      go_wp2_with fail
      go_fit (unhide E2)
      rintro r u3 ⟨rfl, hu⟩
      rw [hu]
      clear hu u3 E2
      cases i2 with
      | false =>
        have hX := hide (unhide hnok (by rw [unhide hval]; rfl))
        go_wp2_with fail
        go_ret
        exact ⟨ret_bool (unhide hX).symm, unhide HB⟩
      | true =>
      as_aux_lemma =>
      go_wp2_with fail
      go_fit (unhide E3)
      rintro r u3 ⟨rfl, hu⟩
      rw [hu]
      clear hu u3 E3
      have E4 := hide (implDepthOk_any dp)
      generalize inB dp 1 4 = i3 at E4 hval
      go_wp2_with fail
      go_fit (unhide E4 _)
      rintro r u4 ⟨rfl, hu⟩
      rw [hu]
      clear hu u4 E4
      cases i3 with
      | false =>
        have hX := hide (unhide hnok (by rw [unhide hval]; rfl))
        go_wp2_with fail
        go_ret
        exact ⟨ret_bool (unhide hX).symm, unhide HB⟩
      | true =>
      have hgo := hide (unhide hmore (by rw [unhide hval]; rfl))
      go_wp2_with fail
      go_roundw
      case rel => exact ⟨k + 1, by omega, by go_num, hgo, D⟩
      case measure => simp [intOf]; omega
    · have hke : k = n := by omega
      subst hke
      have hki : ¬ (k : Int) < (k : Int) := by omega
      have hX := hide (unhide hyes h8 (unhide HK))
      replace HB := hide (below_two (unhide HB) (unhide D))
      go_wp2_with fail
      go_ret
      exact ⟨ret_bool (unhide hX).symm, unhide HB⟩
end Go.Proofs.YtdbphpekhmlmdaaGreatDoor
