/-
  CopyS · CopyT · SameI · TreesS · DrawAn · DrawSp · DrawP: texts of one claim, in one.
-/
import Derived.Test.YtdbphpekhmlmdaaGreatDoorFnPlacesM4
import Derived.Laws.AppendOwnNone
import Derived.Test.YtdbphpekhmlmdaaGreatDoorFnPlacesM1
import Derived.Test.YtdbphpekhmlmdaaGreatDoorFnPlacesM2
import Derived.Test.YtdbphpekhmlmdaaGreatDoorFnPlacesM7
import Derived.Test.YtdbphpekhmlmdaaGreatDoorFnPlacesM8
import Derived.Test.YtdbphpekhmlmdaaGreatDoorFnPlacesM9
import Derived.Test.YtdbphpekhmlmdaaGreatDoorFnPlacesM6
import Derived.Deep.DeepCutAuto
import Derived.Deep.DeepFit
import Derived.Deep.AppendLies

/-
  The specification's copies of paths and nodes. (By copys.py.)
-/
namespace Go.Proofs.YtdbphpekhmlmdaaGreatDoor
open Go.RowKit
set_option linter.unusedVariables false

/-- 'append' onto an empty list of one's own, in a region that draws. -/
theorem wp_append_ints {oo : Oper} {a : Act} {K : Act → World → Prop} {Q : Exit → Act → World → Prop} {V : World} {B : Nat} (s y : Operand)
    (hop : oo.op = .call { callee := .builtin .append, args := #[s, y], argTypes := #[36, 36] })
    (e : Nat) (hWe : B ≤ e) (he : V.heap[e]? = some (.cells #[] 3 (0, 0))) (hB : B ≤ V.heap.size) (hs : a.eval s = .slice (some ⟨e, 0, none⟩) 0 0)
    (ao : Option Addr) (n c : Nat) (f : Nat → Int) (hx : a.eval y = .slice ao n c) (hc : n ≤ c ∧ (ao = none → c = 0)) (H : ∀ i, i < n → IntAt V ao i (f i)) (hn : n ≤ 1048576)
    (hK : ∀ p' c' w', OwnI w' B (.slice p' n c') n f → V.grownBy w' (some e) → K (a.put oo.dst (.slice p' n c')) w') :
    Oper.wp Tryz.prog oo a V K Q := by
  obtain ⟨i, hi, hz, hsize, hby⟩ := info_parts Tryz.info3
  have hown : V.ownsRow B 3 1 (.slice (some ⟨e, 0, none⟩) 0 0) 0 [] := ⟨rfl, .inr ⟨e, 0, #[], rfl, hWe, he, Nat.le_refl _, Nat.zero_le _, rfl, rfl⟩⟩
  cases ao with
  | none =>
    obtain rfl := hc.2 rfl
    obtain rfl : n = 0 := by omega
    have hrun := run_append_owned_none (P := Tryz.prog) (w := V) B 36 oo.type 3 i 1 Tryz.underlying36 hi _ 0 [] hown
    unfold Oper.wp
    simp [execOp, hop, resolve, invoke, builtin, hs, hx, hrun, Result.andThen]
    exact hK _ _ _ ⟨[], hown, fun j hj => absurd hj (by omega)⟩ ⟨rfl, rfl, rfl, Nat.le_refl _, fun _ _ _ => rfl⟩
  | some ad =>
    have VE : ∀ j u, (isL1 f n)[j]? = some u → V.cell? (ad.add j) = some u := by
      rcases Nat.eq_zero_or_pos n with h0 | h0
      · subst h0; intro j u hu; simp [isL1] at hu
      · obtain ⟨s0, o0, e, _⟩ := H 0 h0
        cases e
        exact isL1_cells H
    refine wp_append_own V s y 36 hop B 3 i (.int .i64 0) 1 8 Tryz.underlying36 hi hz hsize hby rfl (by decide) _ 0 [] hs hown ad n c (isL1 f n) hx (isL1_len f n) VE (isL1_one f n) (by unfold maxLen; omega) (by omega) hB ?_
    intro v' w' ho' hg' _
    rw [Nat.zero_add, List.nil_append] at ho'
    obtain ⟨p', c', rfl⟩ := own_form ho'
    exact hK p' c' w' ⟨_, ho', isL1_at f n⟩ hg'
theorem step_append_ints {ops : Array Oper} {oo : Oper} {a : Act} {K : Act → World → Prop} {Q : Exit → Act → World → Prop} {E : Prop} {V : World} {B : Nat} (hg : oo.guard = none) (s y : Operand)
    (hop : oo.op = .call { callee := .builtin .append, args := #[s, y], argTypes := #[36, 36] })
    (e : Nat) (hWe : B ≤ e) (he : V.heap[e]? = some (.cells #[] 3 (0, 0))) (hB : B ≤ V.heap.size) (hs : a.eval s = .slice (some ⟨e, 0, none⟩) 0 0)
    (ao : Option Addr) (n c : Nat) (f : Nat → Int) (hx : a.eval y = .slice ao n c) (hc : n ≤ c ∧ (ao = none → c = 0)) (H : ∀ i, i < n → IntAt V ao i (f i)) (hn : n ≤ 1048576)
    (hK : ∀ p' c' w', OwnI w' B (.slice p' n c') n f → V.grownBy w' (some e) → K (a.put oo.dst (.slice p' n c')) w') :
    if Region.wanted oo (yielded ops a.tmps) = true then Oper.wp Tryz.prog oo a V K Q else E := by
  have hw : Region.wanted oo (yielded ops a.tmps) = true := by simp [Region.wanted, hg]
  rw [if_pos hw]
  exact wp_append_ints s y hop e hWe he hB hs ao n c f hx hc H hn hK

/-- 'append' onto an empty list of one's own, in a region that draws. -/
theorem wp_append_points {oo : Oper} {a : Act} {K : Act → World → Prop} {Q : Exit → Act → World → Prop} {V : World} {B : Nat} (s y : Operand)
    (hop : oo.op = .call { callee := .builtin .append, args := #[s, y], argTypes := #[37, 37] })
    (e : Nat) (hWe : B ≤ e) (he : V.heap[e]? = some (.cells #[] 43 (0, 0))) (hB : B ≤ V.heap.size) (hs : a.eval s = .slice (some ⟨e, 0, none⟩) 0 0)
    (ao : Option Addr) (n c : Nat) (f : Nat → Int × Int) (hx : a.eval y = .slice ao n c) (hc : n ≤ c ∧ (ao = none → c = 0)) (H : ∀ i, i < n → PtArg V ao i (f i)) (hn : n ≤ 1048576)
    (hK : ∀ p' c' w', OwnP w' B (.slice p' n c') n f → V.grownBy w' (some e) → K (a.put oo.dst (.slice p' n c')) w') :
    Oper.wp Tryz.prog oo a V K Q := by
  obtain ⟨i, hi, hz, hsize, hby⟩ := info_parts infoPoint
  have hown : V.ownsRow B 43 2 (.slice (some ⟨e, 0, none⟩) 0 0) 0 [] := ⟨rfl, .inr ⟨e, 0, #[], rfl, hWe, he, Nat.le_refl _, Nat.zero_le _, rfl, rfl⟩⟩
  cases ao with
  | none =>
    obtain rfl := hc.2 rfl
    obtain rfl : n = 0 := by omega
    have hrun := run_append_owned_none (P := Tryz.prog) (w := V) B 37 oo.type 43 i 2 Tryz.underlying37 hi _ 0 [] hown
    unfold Oper.wp
    simp [execOp, hop, resolve, invoke, builtin, hs, hx, hrun, Result.andThen]
    exact hK _ _ _ ⟨[], hown, fun j hj => absurd hj (by omega)⟩ ⟨rfl, rfl, rfl, Nat.le_refl _, fun _ _ _ => rfl⟩
  | some ad =>
    have VE : ∀ j u, (isL2 f n)[j]? = some u → V.cell? (ad.add j) = some u := by
      rcases Nat.eq_zero_or_pos n with h0 | h0
      · subst h0; intro j u hu; simp [isL2] at hu
      · obtain ⟨s0, o0, e, _⟩ := H 0 h0
        cases e
        exact isL2_cells H
    refine wp_append_own V s y 37 hop B 43 i (.agg #[.int .i64 0, .int .i64 0]) 2 16 Tryz.underlying37 hi hz hsize hby rfl (by decide) _ 0 [] hs hown ad n c (isL2 f n) hx (isL2_len f n) VE (isL2_one f n) (by unfold maxLen; omega) (by omega) hB ?_
    intro v' w' ho' hg' _
    rw [Nat.zero_add, List.nil_append] at ho'
    obtain ⟨p', c', rfl⟩ := own_form ho'
    exact hK p' c' w' ⟨_, ho', isL2_at f n⟩ hg'
theorem step_append_points {ops : Array Oper} {oo : Oper} {a : Act} {K : Act → World → Prop} {Q : Exit → Act → World → Prop} {E : Prop} {V : World} {B : Nat} (hg : oo.guard = none) (s y : Operand)
    (hop : oo.op = .call { callee := .builtin .append, args := #[s, y], argTypes := #[37, 37] })
    (e : Nat) (hWe : B ≤ e) (he : V.heap[e]? = some (.cells #[] 43 (0, 0))) (hB : B ≤ V.heap.size) (hs : a.eval s = .slice (some ⟨e, 0, none⟩) 0 0)
    (ao : Option Addr) (n c : Nat) (f : Nat → Int × Int) (hx : a.eval y = .slice ao n c) (hc : n ≤ c ∧ (ao = none → c = 0)) (H : ∀ i, i < n → PtArg V ao i (f i)) (hn : n ≤ 1048576)
    (hK : ∀ p' c' w', OwnP w' B (.slice p' n c') n f → V.grownBy w' (some e) → K (a.put oo.dst (.slice p' n c')) w') :
    if Region.wanted oo (yielded ops a.tmps) = true then Oper.wp Tryz.prog oo a V K Q else E := by
  have hw : Region.wanted oo (yielded ops a.tmps) = true := by simp [Region.wanted, hg]
  rw [if_pos hw]
  exact wp_append_points s y hop e hWe he hB hs ao n c f hx hc H hn hK

theorem OwnI.keptE {w u : World} {base n e : Nat} {v : Value} {f : Nat → Int} (h : OwnI w base v n f) (hg : w.grownBy u (some e)) (he : w.heap[e]? = some (.cells #[] 43 (0, 0))) : OwnI u base v n f := by
  obtain ⟨xs, h1, h2⟩ := h
  have hown : w.ownsRow 0 43 2 (.slice (some ⟨e, 0, none⟩) 0 0) 0 [] := ⟨rfl, .inr ⟨e, 0, #[], rfl, Nat.zero_le _, he, Nat.le_refl _, Nat.zero_le _, rfl, rfl⟩⟩
  refine ⟨xs, h1.kept hg ?_, h2⟩
  cases hk : v.ownBlock with
  | none => exact .inl rfl
  | some k => exact .inr fun e' => own_kind h1 hown (by decide) k hk e'.symm
theorem OwnP.keptE {w u : World} {base n e : Nat} {v : Value} {f : Nat → Int × Int} (h : OwnP w base v n f) (hg : w.grownBy u (some e)) (he : w.heap[e]? = some (.cells #[] 3 (0, 0))) : OwnP u base v n f := by
  obtain ⟨xs, h1, h2⟩ := h
  have hown : w.ownsRow 0 3 1 (.slice (some ⟨e, 0, none⟩) 0 0) 0 [] := ⟨rfl, .inr ⟨e, 0, #[], rfl, Nat.zero_le _, he, Nat.le_refl _, Nat.zero_le _, rfl, rfl⟩⟩
  refine ⟨xs, h1.kept hg ?_, h2⟩
  cases hk : v.ownBlock with
  | none => exact .inl rfl
  | some k => exact .inr fun e' => own_kind h1 hown (by decide) k hk e'.symm

set_option maxHeartbeats 8000000 in
set_option maxRecDepth 100000 in
theorem specCopyPath_any (vf : Nat → Int) (pf : Nat → Int × Int) (ao bo : Option Addr) (n c m d : Nat) (hn : n ≤ 1048576) (hm : m ≤ 1048576) (hc : n ≤ c ∧ (ao = none → c = 0)) (hd : m ≤ d ∧ (bo = none → d = 0)) (w : World)
    (VV : ∀ i, i < n → IntAt w ao i (vf i)) (PP : ∀ i, i < m → PtArg w bo i (pf i)) :
    Calls Tryz.prog 66 #[.agg #[.slice ao n c, .slice bo m d]] w fun r w' => ∃ a' c' b' d', r = .returned (.agg #[.slice a' n c', .slice b' m d']) ∧ OwnI w' w.heap.size (.slice a' n c') n vf ∧ OwnP w' w.heap.size (.slice b' m d') m pf ∧ Below w.heap.size w w' := by
  replace VV := hide VV
  replace PP := hide PP
  go_enter Tryz.func66, Tryz.ntmps66
  go_upto_region 1 with fail
  have R1 := hide (al2_0 w (.cells #[.slice ao n c, .slice bo m d] 39) (.cells #[.slice none 0 0, .slice none 0 0] 39))
  have R2 := hide (al2_1 w (.cells #[.slice ao n c, .slice bo m d] 39) (.cells #[.slice none 0 0, .slice none 0 0] 39))
  have HW := hide (al2_below w (.cells #[.slice ao n c, .slice bo m d] 39) (.cells #[.slice none 0 0, .slice none 0 0] 39))
  obtain ⟨b2, hb2⟩ : ∃ b, Hid (b = w.heap.size + 1) := ⟨_, rfl⟩
  obtain ⟨b1, hb1⟩ : ∃ b, Hid (b = w.heap.size) := ⟨_, rfl⟩
  have lw : Hid (b1 < b2 ∧ w.heap.size ≤ b2) := by unfold Hid; rw [unhide hb2, unhide hb1]; omega
  rw [← unhide hb2] at R2
  rw [← unhide hb1] at R1
  rw [← unhide hb2, ← unhide hb1]
  generalize (w.alloc (.cells #[.slice ao n c, .slice bo m d] 39)).alloc (.cells #[.slice none 0 0, .slice none 0 0] 39) = W at R1 R2 HW ⊢
  clear hb2 hb1
  have l2 := hide (show b2 < W.heap.size from heap_lt (unhide R2))
  have lb := hide (show b1 < W.heap.size ∧ b2 < W.heap.size from ⟨heap_lt (unhide R1), heap_lt (unhide R2)⟩)
  have nb := hide (show b1 ≠ b2 by have := unhide lw; omega)
  have ne1 : ¬ b1 = b2 := unhide nb
  have ne2 : ¬ b2 = b1 := fun e => ne1 e.symm
  refine wp_region_held_drew (S := (fun u => u.cell? ⟨b1, 0, none⟩ = some (.slice ao n c) ∧ u.cell? ⟨b1, 1, none⟩ = some (.slice bo m d))) (by kernel_rfl) ?_ (fun hHeld => ?_)
  · exact row2 (unhide R1)
  have HB := hide (show Below W.heap.size W W.drew from (Below.refl _ _).drew)
  replace R1 := hide (row_next (unhide HB) (unhide R1))
  replace R2 := hide (row_next (unhide HB) (unhide R2))
  generalize W.drew = V0 at R1 R2 HB hHeld ⊢
  refine wpAnyH_take (i := 1) (oi := { dst := some 4, op := Op.fieldAddr 39 (Operand.tmp 1) 0, type := 0, pos := "l15_scene.go:100", after := #[], guard := none }) (v := ?_) rfl (by kernel_rfl) (by kernel_rfl) (by kernel_rfl) (fun _ _ _ h => h) (Or.inl ⟨by rfl, ?_⟩) (by assumption) ?_
  rotate_left
  · intro w hSw; (try dsimp only at hSw); go_simp <;> with_reducible rfl
  try simp only [Act.put, List.setIfInBounds_toArray, List.set_cons_zero, List.set_cons_succ]
  refine wpAnyH_take (i := 2) (oi := { dst := some 5, op := Op.load 36 (Operand.tmp 4), type := 36, pos := "l15_scene.go:100", after := #[{ on := 1, ground := Ground.data }], guard := none }) (v := ?_) rfl (by kernel_rfl) (by kernel_rfl) (by kernel_rfl) (fun _ _ _ h => h) (Or.inl ⟨by rfl, ?_⟩) (by assumption) ?_
  rotate_left
  · intro w hSw; (try dsimp only at hSw); go_simp <;> with_reducible rfl
  try simp only [Act.put, List.setIfInBounds_toArray, List.set_cons_zero, List.set_cons_succ]
  refine wpAnyH_take (i := 5) (oi := { dst := some 8, op := Op.fieldAddr 39 (Operand.tmp 1) 1, type := 0, pos := "l15_scene.go:100", after := #[], guard := none }) (v := ?_) rfl (by kernel_rfl) (by kernel_rfl) (by kernel_rfl) (fun _ _ _ h => h) (Or.inl ⟨by rfl, ?_⟩) (by assumption) ?_
  rotate_left
  · intro w hSw; (try dsimp only at hSw); go_simp <;> with_reducible rfl
  try simp only [Act.put, List.setIfInBounds_toArray, List.set_cons_zero, List.set_cons_succ]
  refine wpAnyH_take (i := 6) (oi := { dst := some 9, op := Op.load 37 (Operand.tmp 8), type := 37, pos := "l15_scene.go:100", after := #[{ on := 5, ground := Ground.data }], guard := none }) (v := ?_) rfl (by kernel_rfl) (by kernel_rfl) (by kernel_rfl) (fun _ _ _ h => h) (Or.inl ⟨by rfl, ?_⟩) (by assumption) ?_
  rotate_left
  · intro w hSw; (try dsimp only at hSw); go_simp <;> with_reducible rfl
  try simp only [Act.put, List.setIfInBounds_toArray, List.set_cons_zero, List.set_cons_succ]
  refine wpAnyH_ready (rs := [0, 4]) (by kernel_rfl) (by simp) ?_
  refine AllReadyH.cons (o := { dst := some 3, op := Op.buildSlice 36 0 #[], type := 36, pos := "l15_scene.go:100", after := #[], guard := none }) rfl (fun K hK => ?_) ?_
  · go_simp
    replace R1 := hide (row_next (al1_below V0 (.cells #[] 3)) (unhide R1))
    replace R2 := hide (row_next (al1_below V0 (.cells #[] 3)) (unhide R2))
    refine hK.out _ _ ?_ (fun hHeld => ?_)
    · exact row2 (unhide R1)
    clear hK K
    try simp only [Act.put, List.setIfInBounds_toArray, List.set_cons_zero, List.set_cons_succ]
    have RE := hide (new_row V0 (.cells #[] 3))
    have le := hide (unhide HB).size
    replace HB := hide (below_two (unhide HB) (al1_below V0 (.cells #[] 3)))
    generalize V0.alloc (.cells #[] 3) = V1 at R1 R2 RE HB hHeld ⊢
    generalize V0.heap.size = ee at RE le ⊢
    refine wpAnyH_ready (rs := [3, 4]) (by kernel_rfl) (by simp) ?_
    refine AllReadyH.cons (o := { dst := some 6, op := Op.call { callee := Callee.builtin Builtin.append, args := #[Operand.tmp 3, Operand.tmp 5], argTypes := #[36, 36] }, type := 36, pos := "l15_scene.go:100", after := #[{ on := 0, ground := Ground.data }, { on := 2, ground := Ground.data }], guard := none }) rfl (fun K hK => ?_) ?_
    · refine step_append_ints rfl _ _ rfl ee (unhide le) (unhide RE) (unhide HB).size rfl ao n c vf rfl hc (fun i hi => (unhide VV i hi).next (below_two (unhide HW) (unhide HB))) hn ?_
      intro p6 c6 V2 oI g6
      replace R1 := hide ((g6.block b1 (heap_lt (unhide R1)) (fun e => by cases e; have := unhide le; have := unhide lb; omega)).trans (unhide R1))
      replace R2 := hide ((g6.block b2 (heap_lt (unhide R2)) (fun e => by cases e; have := unhide le; have := unhide lb; omega)).trans (unhide R2))
      replace HB := hide ((unhide HB).grown g6 (unhide HB).size (fun k hk => by cases hk; exact unhide le))
      refine hK.out _ _ ?_ (fun hHeld => ?_)
      · exact row2 (unhide R1)
      clear hK K RE g6
      try simp only [Act.put, List.setIfInBounds_toArray, List.set_cons_zero, List.set_cons_succ]
      replace oI := hide oI
      refine wpAnyH_ready (rs := [4]) (by kernel_rfl) (by simp) ?_
      refine AllReadyH.cons (o := { dst := some 7, op := Op.buildSlice 37 0 #[], type := 37, pos := "l15_scene.go:100", after := #[], guard := none }) rfl (fun K hK => ?_) ?_
      · go_simp
        replace R1 := hide (row_next (al1_below V2 (.cells #[] 43)) (unhide R1))
        replace R2 := hide (row_next (al1_below V2 (.cells #[] 43)) (unhide R2))
        replace oI := hide ((unhide oI).next (al1_below V2 (.cells #[] 43)))
        refine hK.out _ _ ?_ (fun hHeld => ?_)
        · exact row2 (unhide R1)
        clear hK K
        try simp only [Act.put, List.setIfInBounds_toArray, List.set_cons_zero, List.set_cons_succ]
        have RZ := hide (new_row V2 (.cells #[] 43))
        have lz := hide (unhide HB).size
        replace HB := hide (below_two (unhide HB) (al1_below V2 (.cells #[] 43)))
        generalize V2.alloc (.cells #[] 43) = V3 at R1 R2 oI RZ HB hHeld ⊢
        generalize V2.heap.size = zz at RZ lz ⊢
        refine wpAnyH_ready (rs := [7]) (by kernel_rfl) (by simp) ?_
        refine AllReadyH.cons (o := { dst := some 10, op := Op.call { callee := Callee.builtin Builtin.append, args := #[Operand.tmp 7, Operand.tmp 9], argTypes := #[37, 37] }, type := 37, pos := "l15_scene.go:100", after := #[{ on := 4, ground := Ground.data }, { on := 6, ground := Ground.data }, { on := 3, ground := Ground.chain }], guard := none }) rfl (fun K hK => ?_) ?_
        · refine step_append_points rfl _ _ rfl zz (unhide lz) (unhide RZ) (unhide HB).size rfl bo m d pf rfl hd (fun i hi => (unhide PP i hi).next (below_two (unhide HW) (unhide HB))) hm ?_
          intro p7 c7 V4 oP g6
          replace R1 := hide ((g6.block b1 (heap_lt (unhide R1)) (fun e => by cases e; have := unhide lz; have := unhide lb; omega)).trans (unhide R1))
          replace R2 := hide ((g6.block b2 (heap_lt (unhide R2)) (fun e => by cases e; have := unhide lz; have := unhide lb; omega)).trans (unhide R2))
          replace oI := hide ((unhide oI).keptE g6 (unhide RZ))
          replace HB := hide ((unhide HB).grown g6 (unhide HB).size (fun k hk => by cases hk; exact unhide lz))
          refine hK.out _ _ ?_ (fun hHeld => ?_)
          · exact row2 (unhide R1)
          clear hK K RZ g6
          try simp only [Act.put, List.setIfInBounds_toArray, List.set_cons_zero, List.set_cons_succ]
          replace oP := hide oP
          refine wpAnyH_take (i := 8) (oi := { dst := some 11, op := Op.build 39 #[(0, Operand.tmp 6), (1, Operand.tmp 10)], type := 39, pos := "l15_scene.go:100", after := #[{ on := 3, ground := Ground.data }, { on := 7, ground := Ground.data }], guard := none }) (v := ?_) rfl (by kernel_rfl) (by kernel_rfl) (by kernel_rfl) (fun _ _ _ h => h) (Or.inl ⟨by rfl, ?_⟩) (by assumption) ?_
          rotate_left
          · intro w hSw; (try dsimp only at hSw); go_simp <;> with_reducible rfl
          try simp only [Act.put, List.setIfInBounds_toArray, List.set_cons_zero, List.set_cons_succ]
          refine wpAnyH_ready (rs := [9]) (by kernel_rfl) (by simp) ?_
          refine AllReadyH.cons (o := { dst := none, op := Op.store 39 (Operand.tmp 2) (Operand.tmp 11), type := 0, pos := "l15_scene.go:100", after := #[{ on := 8, ground := Ground.data }, { on := 7, ground := Ground.chain }, { on := 0, ground := Ground.phase }, { on := 1, ground := Ground.phase }, { on := 2, ground := Ground.phase }, { on := 3, ground := Ground.phase }, { on := 4, ground := Ground.phase }, { on := 5, ground := Ground.phase }, { on := 6, ground := Ground.phase }, { on := 7, ground := Ground.phase }, { on := 8, ground := Ground.phase }], guard := none }) rfl (fun K hK => ?_) ?_
          · obtain ⟨e0, e1⟩ := row2 (unhide R2)
            obtain ⟨f0, f1⟩ := free2 (unhide R2)
            go_simp
            refine hK.out _ _ ?_ (fun hHeld => ?_)
            · exact row2 (put2_other (unhide nb) (unhide R1))
            clear hK K
            try simp only [Act.put, List.setIfInBounds_toArray, List.set_cons_zero, List.set_cons_succ]
            refine wpAnyH_done (by kernel_rfl) ?_ _
            obtain ⟨g0, g1⟩ := row2 (put2_row (y0 := .slice p6 n c6) (y1 := .slice p7 m c7) (unhide R2))
            go_wp2_with fail
            refine bodyPost_ret (v := .agg #[.slice p6 n c6, .slice p7 m c7]) (by simp [results, Tryz.results66, go_sem, e0, e1]) rfl ⟨p6, c6, p7, c7, rfl, ?_, ?_, ?_⟩
            · exact (((unhide oI).setc (unhide l2)).setc (unhide l2)).low (unhide HW).size
            · exact (((unhide oP).setc (unhide l2)).setc (unhide l2)).low (unhide HW).size
            · exact below_put2 (below_two (unhide HW) (unhide HB)) (unhide lw).2 _ _
          exact AllReadyH.nil
        exact AllReadyH.nil
      exact AllReadyH.nil
    refine AllReadyH.cons (o := { dst := some 7, op := Op.buildSlice 37 0 #[], type := 37, pos := "l15_scene.go:100", after := #[], guard := none }) rfl (fun K hK => ?_) ?_
    · go_simp
      replace R1 := hide (row_next (al1_below V1 (.cells #[] 43)) (unhide R1))
      replace R2 := hide (row_next (al1_below V1 (.cells #[] 43)) (unhide R2))
      replace RE := hide (row_next (al1_below V1 (.cells #[] 43)) (unhide RE))
      refine hK.out _ _ ?_ (fun hHeld => ?_)
      · exact row2 (unhide R1)
      clear hK K
      try simp only [Act.put, List.setIfInBounds_toArray, List.set_cons_zero, List.set_cons_succ]
      have RZ := hide (new_row V1 (.cells #[] 43))
      have lz := hide (unhide HB).size
      replace HB := hide (below_two (unhide HB) (al1_below V1 (.cells #[] 43)))
      generalize V1.alloc (.cells #[] 43) = V5 at R1 R2 RE RZ HB hHeld ⊢
      generalize V1.heap.size = zz at RZ lz ⊢
      refine wpAnyH_ready (rs := [3]) (by kernel_rfl) (by simp) ?_
      refine AllReadyH.cons (o := { dst := some 6, op := Op.call { callee := Callee.builtin Builtin.append, args := #[Operand.tmp 3, Operand.tmp 5], argTypes := #[36, 36] }, type := 36, pos := "l15_scene.go:100", after := #[{ on := 0, ground := Ground.data }, { on := 2, ground := Ground.data }], guard := none }) rfl (fun K hK => ?_) ?_
      · refine step_append_ints rfl _ _ rfl ee (unhide le) (unhide RE) (unhide HB).size rfl ao n c vf rfl hc (fun i hi => (unhide VV i hi).next (below_two (unhide HW) (unhide HB))) hn ?_
        intro p6 c6 V6 oI g6
        replace R1 := hide ((g6.block b1 (heap_lt (unhide R1)) (fun e => by cases e; have := unhide le; have := unhide lb; omega)).trans (unhide R1))
        replace R2 := hide ((g6.block b2 (heap_lt (unhide R2)) (fun e => by cases e; have := unhide le; have := unhide lb; omega)).trans (unhide R2))
        replace RZ := hide ((g6.block zz (heap_lt (unhide RZ)) (fun e => by cases e; have h1 := unhide RE; rw [unhide RZ] at h1; cases h1)).trans (unhide RZ))
        replace HB := hide ((unhide HB).grown g6 (unhide HB).size (fun k hk => by cases hk; exact unhide le))
        refine hK.out _ _ ?_ (fun hHeld => ?_)
        · exact row2 (unhide R1)
        clear hK K RE g6
        try simp only [Act.put, List.setIfInBounds_toArray, List.set_cons_zero, List.set_cons_succ]
        replace oI := hide oI
        refine wpAnyH_ready (rs := [7]) (by kernel_rfl) (by simp) ?_
        refine AllReadyH.cons (o := { dst := some 10, op := Op.call { callee := Callee.builtin Builtin.append, args := #[Operand.tmp 7, Operand.tmp 9], argTypes := #[37, 37] }, type := 37, pos := "l15_scene.go:100", after := #[{ on := 4, ground := Ground.data }, { on := 6, ground := Ground.data }, { on := 3, ground := Ground.chain }], guard := none }) rfl (fun K hK => ?_) ?_
        · refine step_append_points rfl _ _ rfl zz (unhide lz) (unhide RZ) (unhide HB).size rfl bo m d pf rfl hd (fun i hi => (unhide PP i hi).next (below_two (unhide HW) (unhide HB))) hm ?_
          intro p7 c7 V7 oP g6
          replace R1 := hide ((g6.block b1 (heap_lt (unhide R1)) (fun e => by cases e; have := unhide lz; have := unhide lb; omega)).trans (unhide R1))
          replace R2 := hide ((g6.block b2 (heap_lt (unhide R2)) (fun e => by cases e; have := unhide lz; have := unhide lb; omega)).trans (unhide R2))
          replace oI := hide ((unhide oI).keptE g6 (unhide RZ))
          replace HB := hide ((unhide HB).grown g6 (unhide HB).size (fun k hk => by cases hk; exact unhide lz))
          refine hK.out _ _ ?_ (fun hHeld => ?_)
          · exact row2 (unhide R1)
          clear hK K RZ g6
          try simp only [Act.put, List.setIfInBounds_toArray, List.set_cons_zero, List.set_cons_succ]
          replace oP := hide oP
          refine wpAnyH_take (i := 8) (oi := { dst := some 11, op := Op.build 39 #[(0, Operand.tmp 6), (1, Operand.tmp 10)], type := 39, pos := "l15_scene.go:100", after := #[{ on := 3, ground := Ground.data }, { on := 7, ground := Ground.data }], guard := none }) (v := ?_) rfl (by kernel_rfl) (by kernel_rfl) (by kernel_rfl) (fun _ _ _ h => h) (Or.inl ⟨by rfl, ?_⟩) (by assumption) ?_
          rotate_left
          · intro w hSw; (try dsimp only at hSw); go_simp <;> with_reducible rfl
          try simp only [Act.put, List.setIfInBounds_toArray, List.set_cons_zero, List.set_cons_succ]
          refine wpAnyH_ready (rs := [9]) (by kernel_rfl) (by simp) ?_
          refine AllReadyH.cons (o := { dst := none, op := Op.store 39 (Operand.tmp 2) (Operand.tmp 11), type := 0, pos := "l15_scene.go:100", after := #[{ on := 8, ground := Ground.data }, { on := 7, ground := Ground.chain }, { on := 0, ground := Ground.phase }, { on := 1, ground := Ground.phase }, { on := 2, ground := Ground.phase }, { on := 3, ground := Ground.phase }, { on := 4, ground := Ground.phase }, { on := 5, ground := Ground.phase }, { on := 6, ground := Ground.phase }, { on := 7, ground := Ground.phase }, { on := 8, ground := Ground.phase }], guard := none }) rfl (fun K hK => ?_) ?_
          · obtain ⟨e0, e1⟩ := row2 (unhide R2)
            obtain ⟨f0, f1⟩ := free2 (unhide R2)
            go_simp
            refine hK.out _ _ ?_ (fun hHeld => ?_)
            · exact row2 (put2_other (unhide nb) (unhide R1))
            clear hK K
            try simp only [Act.put, List.setIfInBounds_toArray, List.set_cons_zero, List.set_cons_succ]
            refine wpAnyH_done (by kernel_rfl) ?_ _
            obtain ⟨g0, g1⟩ := row2 (put2_row (y0 := .slice p6 n c6) (y1 := .slice p7 m c7) (unhide R2))
            go_wp2_with fail
            refine bodyPost_ret (v := .agg #[.slice p6 n c6, .slice p7 m c7]) (by simp [results, Tryz.results66, go_sem, e0, e1]) rfl ⟨p6, c6, p7, c7, rfl, ?_, ?_, ?_⟩
            · exact (((unhide oI).setc (unhide l2)).setc (unhide l2)).low (unhide HW).size
            · exact (((unhide oP).setc (unhide l2)).setc (unhide l2)).low (unhide HW).size
            · exact below_put2 (below_two (unhide HW) (unhide HB)) (unhide lw).2 _ _
          exact AllReadyH.nil
        exact AllReadyH.nil
      exact AllReadyH.nil
    exact AllReadyH.nil
  refine AllReadyH.cons (o := { dst := some 7, op := Op.buildSlice 37 0 #[], type := 37, pos := "l15_scene.go:100", after := #[], guard := none }) rfl (fun K hK => ?_) ?_
  · go_simp
    replace R1 := hide (row_next (al1_below V0 (.cells #[] 43)) (unhide R1))
    replace R2 := hide (row_next (al1_below V0 (.cells #[] 43)) (unhide R2))
    refine hK.out _ _ ?_ (fun hHeld => ?_)
    · exact row2 (unhide R1)
    clear hK K
    try simp only [Act.put, List.setIfInBounds_toArray, List.set_cons_zero, List.set_cons_succ]
    have RZ := hide (new_row V0 (.cells #[] 43))
    have lz := hide (unhide HB).size
    replace HB := hide (below_two (unhide HB) (al1_below V0 (.cells #[] 43)))
    generalize V0.alloc (.cells #[] 43) = V8 at R1 R2 RZ HB hHeld ⊢
    generalize V0.heap.size = zz at RZ lz ⊢
    refine wpAnyH_ready (rs := [0]) (by kernel_rfl) (by simp) ?_
    refine AllReadyH.cons (o := { dst := some 3, op := Op.buildSlice 36 0 #[], type := 36, pos := "l15_scene.go:100", after := #[], guard := none }) rfl (fun K hK => ?_) ?_
    · go_simp
      replace R1 := hide (row_next (al1_below V8 (.cells #[] 3)) (unhide R1))
      replace R2 := hide (row_next (al1_below V8 (.cells #[] 3)) (unhide R2))
      replace RZ := hide (row_next (al1_below V8 (.cells #[] 3)) (unhide RZ))
      refine hK.out _ _ ?_ (fun hHeld => ?_)
      · exact row2 (unhide R1)
      clear hK K
      try simp only [Act.put, List.setIfInBounds_toArray, List.set_cons_zero, List.set_cons_succ]
      have RE := hide (new_row V8 (.cells #[] 3))
      have le := hide (unhide HB).size
      replace HB := hide (below_two (unhide HB) (al1_below V8 (.cells #[] 3)))
      generalize V8.alloc (.cells #[] 3) = V9 at R1 R2 RZ RE HB hHeld ⊢
      generalize V8.heap.size = ee at RE le ⊢
      refine wpAnyH_ready (rs := [3]) (by kernel_rfl) (by simp) ?_
      refine AllReadyH.cons (o := { dst := some 6, op := Op.call { callee := Callee.builtin Builtin.append, args := #[Operand.tmp 3, Operand.tmp 5], argTypes := #[36, 36] }, type := 36, pos := "l15_scene.go:100", after := #[{ on := 0, ground := Ground.data }, { on := 2, ground := Ground.data }], guard := none }) rfl (fun K hK => ?_) ?_
      · refine step_append_ints rfl _ _ rfl ee (unhide le) (unhide RE) (unhide HB).size rfl ao n c vf rfl hc (fun i hi => (unhide VV i hi).next (below_two (unhide HW) (unhide HB))) hn ?_
        intro p6 c6 V10 oI g6
        replace R1 := hide ((g6.block b1 (heap_lt (unhide R1)) (fun e => by cases e; have := unhide le; have := unhide lb; omega)).trans (unhide R1))
        replace R2 := hide ((g6.block b2 (heap_lt (unhide R2)) (fun e => by cases e; have := unhide le; have := unhide lb; omega)).trans (unhide R2))
        replace RZ := hide ((g6.block zz (heap_lt (unhide RZ)) (fun e => by cases e; have h1 := unhide RE; rw [unhide RZ] at h1; cases h1)).trans (unhide RZ))
        replace HB := hide ((unhide HB).grown g6 (unhide HB).size (fun k hk => by cases hk; exact unhide le))
        refine hK.out _ _ ?_ (fun hHeld => ?_)
        · exact row2 (unhide R1)
        clear hK K RE g6
        try simp only [Act.put, List.setIfInBounds_toArray, List.set_cons_zero, List.set_cons_succ]
        replace oI := hide oI
        refine wpAnyH_ready (rs := [7]) (by kernel_rfl) (by simp) ?_
        refine AllReadyH.cons (o := { dst := some 10, op := Op.call { callee := Callee.builtin Builtin.append, args := #[Operand.tmp 7, Operand.tmp 9], argTypes := #[37, 37] }, type := 37, pos := "l15_scene.go:100", after := #[{ on := 4, ground := Ground.data }, { on := 6, ground := Ground.data }, { on := 3, ground := Ground.chain }], guard := none }) rfl (fun K hK => ?_) ?_
        · refine step_append_points rfl _ _ rfl zz (unhide lz) (unhide RZ) (unhide HB).size rfl bo m d pf rfl hd (fun i hi => (unhide PP i hi).next (below_two (unhide HW) (unhide HB))) hm ?_
          intro p7 c7 V11 oP g6
          replace R1 := hide ((g6.block b1 (heap_lt (unhide R1)) (fun e => by cases e; have := unhide lz; have := unhide lb; omega)).trans (unhide R1))
          replace R2 := hide ((g6.block b2 (heap_lt (unhide R2)) (fun e => by cases e; have := unhide lz; have := unhide lb; omega)).trans (unhide R2))
          replace oI := hide ((unhide oI).keptE g6 (unhide RZ))
          replace HB := hide ((unhide HB).grown g6 (unhide HB).size (fun k hk => by cases hk; exact unhide lz))
          refine hK.out _ _ ?_ (fun hHeld => ?_)
          · exact row2 (unhide R1)
          clear hK K RZ g6
          try simp only [Act.put, List.setIfInBounds_toArray, List.set_cons_zero, List.set_cons_succ]
          replace oP := hide oP
          refine wpAnyH_take (i := 8) (oi := { dst := some 11, op := Op.build 39 #[(0, Operand.tmp 6), (1, Operand.tmp 10)], type := 39, pos := "l15_scene.go:100", after := #[{ on := 3, ground := Ground.data }, { on := 7, ground := Ground.data }], guard := none }) (v := ?_) rfl (by kernel_rfl) (by kernel_rfl) (by kernel_rfl) (fun _ _ _ h => h) (Or.inl ⟨by rfl, ?_⟩) (by assumption) ?_
          rotate_left
          · intro w hSw; (try dsimp only at hSw); go_simp <;> with_reducible rfl
          try simp only [Act.put, List.setIfInBounds_toArray, List.set_cons_zero, List.set_cons_succ]
          refine wpAnyH_ready (rs := [9]) (by kernel_rfl) (by simp) ?_
          refine AllReadyH.cons (o := { dst := none, op := Op.store 39 (Operand.tmp 2) (Operand.tmp 11), type := 0, pos := "l15_scene.go:100", after := #[{ on := 8, ground := Ground.data }, { on := 7, ground := Ground.chain }, { on := 0, ground := Ground.phase }, { on := 1, ground := Ground.phase }, { on := 2, ground := Ground.phase }, { on := 3, ground := Ground.phase }, { on := 4, ground := Ground.phase }, { on := 5, ground := Ground.phase }, { on := 6, ground := Ground.phase }, { on := 7, ground := Ground.phase }, { on := 8, ground := Ground.phase }], guard := none }) rfl (fun K hK => ?_) ?_
          · obtain ⟨e0, e1⟩ := row2 (unhide R2)
            obtain ⟨f0, f1⟩ := free2 (unhide R2)
            go_simp
            refine hK.out _ _ ?_ (fun hHeld => ?_)
            · exact row2 (put2_other (unhide nb) (unhide R1))
            clear hK K
            try simp only [Act.put, List.setIfInBounds_toArray, List.set_cons_zero, List.set_cons_succ]
            refine wpAnyH_done (by kernel_rfl) ?_ _
            obtain ⟨g0, g1⟩ := row2 (put2_row (y0 := .slice p6 n c6) (y1 := .slice p7 m c7) (unhide R2))
            go_wp2_with fail
            refine bodyPost_ret (v := .agg #[.slice p6 n c6, .slice p7 m c7]) (by simp [results, Tryz.results66, go_sem, e0, e1]) rfl ⟨p6, c6, p7, c7, rfl, ?_, ?_, ?_⟩
            · exact (((unhide oI).setc (unhide l2)).setc (unhide l2)).low (unhide HW).size
            · exact (((unhide oP).setc (unhide l2)).setc (unhide l2)).low (unhide HW).size
            · exact below_put2 (below_two (unhide HW) (unhide HB)) (unhide lw).2 _ _
          exact AllReadyH.nil
        exact AllReadyH.nil
      exact AllReadyH.nil
    exact AllReadyH.nil
  exact AllReadyH.nil

theorem wpList_append_ints {ops : Array Oper} {rest : List Oper} {oo : Oper} {a : Act} {Q : Exit → Act → World → Prop} {V : World} {B : Nat} (hgd : oo.guard = none) (s y : Operand)
    (hop : oo.op = .call { callee := .builtin .append, args := #[s, y], argTypes := #[36, 36] })
    (e : Nat) (hWe : B ≤ e) (he : V.heap[e]? = some (.cells #[] 3 (0, 0))) (hB : B ≤ V.heap.size) (hs : a.eval s = .slice (some ⟨e, 0, none⟩) 0 0)
    (ao : Option Addr) (n c : Nat) (f : Nat → Int) (hx : a.eval y = .slice ao n c) (hc : n ≤ c ∧ (ao = none → c = 0)) (H : ∀ i, i < n → IntAt V ao i (f i)) (hn : n ≤ 1048576)
    (h : ∀ p' c' w', OwnI w' B (.slice p' n c') n f → V.grownBy w' (some e) → wpList Tryz.prog ops Q rest (a.put oo.dst (.slice p' n c')) w') : wpList Tryz.prog ops Q (oo :: rest) a V :=
  wpList_plain hgd fun _ hK => wp_append_ints s y hop e hWe he hB hs ao n c f hx hc H hn (fun p' c' w' ho hg => hK _ _ (h p' c' w' ho hg))

end Go.Proofs.YtdbphpekhmlmdaaGreatDoor

/-
  The specification's copies of nodes. (By copys.py.)
-/
namespace Go.Proofs.YtdbphpekhmlmdaaGreatDoor
open Go.RowKit
set_option linter.unusedVariables false

set_option maxHeartbeats 8000000 in
set_option maxRecDepth 100000 in
theorem specCopyNode_any (x : Nd) (s : Na) (hs : x.Small) (hc : Caps x s) (w : World) (h : NdIn w x s) :
    Calls Tryz.prog 31 #[.agg (ndC x s)] w fun r w' => ∃ s', r = .returned (.agg (ndC x s')) ∧ NdG w' w.heap.size x s' ∧ Below w.heap.size w w' := by
  have E1 := hide (fun u (hu : Below w.heap.size w u) => specCopyPath_any x.vf x.pf s.av s.ap x.nv s.cv x.np s.cp hs.nv hs.np hc.v hc.p u (h.next hu).v (h.next hu).p)
  have D2 := hide (fun u (hu : Below w.heap.size w u) => (h.next hu).d)
  have n2 := hs.nd
  have c2' := hide hc.d
  have E3 := hide (fun u (hu : Below w.heap.size w u) => specCopyPath_any x.wf x.qf s.bv s.bp x.mv s.dv x.mp s.dp hs.mv hs.mp hc.cv hc.cp u (h.next hu).cv (h.next hu).cp)
  clear hs hc h
  go_enter Tryz.func31, Tryz.ntmps31
  go_upto_region 1 with fail
  have R := hide (al2_0 w (.cells (ndC x s) 47) (.cells #[.int .i64 0, .int .i64 0, .bool false, .int .i64 0, .int .i64 0, .int .i64 0, .int .i64 0, .int .i64 0, .int .i64 0, .slice none 0 0, .slice none 0 0, .bool false, .int .i64 0, .slice none 0 0, .int .i64 0, .int .i64 0, .int .i64 0, .int .i64 0, .int .i64 0, .int .i64 0, .int .i64 0, .int .i64 0, .int .i64 0, .int .i64 0, .int .i64 0, .int .i64 0, .int .i64 0, .int .i64 0, .int .i64 0, .slice none 0 0, .slice none 0 0] 47))
  have R2 := hide (al2_1 w (.cells (ndC x s) 47) (.cells #[.int .i64 0, .int .i64 0, .bool false, .int .i64 0, .int .i64 0, .int .i64 0, .int .i64 0, .int .i64 0, .int .i64 0, .slice none 0 0, .slice none 0 0, .bool false, .int .i64 0, .slice none 0 0, .int .i64 0, .int .i64 0, .int .i64 0, .int .i64 0, .int .i64 0, .int .i64 0, .int .i64 0, .int .i64 0, .int .i64 0, .int .i64 0, .int .i64 0, .int .i64 0, .int .i64 0, .int .i64 0, .int .i64 0, .slice none 0 0, .slice none 0 0] 47))
  have HB := hide (al2_below w (.cells (ndC x s) 47) (.cells #[.int .i64 0, .int .i64 0, .bool false, .int .i64 0, .int .i64 0, .int .i64 0, .int .i64 0, .int .i64 0, .int .i64 0, .slice none 0 0, .slice none 0 0, .bool false, .int .i64 0, .slice none 0 0, .int .i64 0, .int .i64 0, .int .i64 0, .int .i64 0, .int .i64 0, .int .i64 0, .int .i64 0, .int .i64 0, .int .i64 0, .int .i64 0, .int .i64 0, .int .i64 0, .int .i64 0, .int .i64 0, .int .i64 0, .slice none 0 0, .slice none 0 0] 47))
  obtain ⟨b2, hb2⟩ : ∃ b, Hid (b = w.heap.size + 1) := ⟨_, rfl⟩
  obtain ⟨b1, hb1⟩ : ∃ b, Hid (b = w.heap.size) := ⟨_, rfl⟩
  have lz : Hid (w.heap.size ≤ b1 ∧ w.heap.size ≤ b2 ∧ b1 < b2) := by unfold Hid; rw [unhide hb2, unhide hb1]; omega
  rw [← unhide hb2] at R2
  rw [← unhide hb1] at R
  rw [← unhide hb2, ← unhide hb1]
  generalize (w.alloc (.cells (ndC x s) 47)).alloc (.cells #[.int .i64 0, .int .i64 0, .bool false, .int .i64 0, .int .i64 0, .int .i64 0, .int .i64 0, .int .i64 0, .int .i64 0, .slice none 0 0, .slice none 0 0, .bool false, .int .i64 0, .slice none 0 0, .int .i64 0, .int .i64 0, .int .i64 0, .int .i64 0, .int .i64 0, .int .i64 0, .int .i64 0, .int .i64 0, .int .i64 0, .int .i64 0, .int .i64 0, .int .i64 0, .int .i64 0, .int .i64 0, .int .i64 0, .slice none 0 0, .slice none 0 0] 47) = W at R R2 HB ⊢
  clear hb2 hb1
  obtain ⟨C, hC⟩ : ∃ C : Array Value, Hid (#[.int .i64 0, .int .i64 0, .bool false, .int .i64 0, .int .i64 0, .int .i64 0, .int .i64 0, .int .i64 0, .int .i64 0, .slice none 0 0, .slice none 0 0, .bool false, .int .i64 0, .slice none 0 0, .int .i64 0, .int .i64 0, .int .i64 0, .int .i64 0, .int .i64 0, .int .i64 0, .int .i64 0, .int .i64 0, .int .i64 0, .int .i64 0, .int .i64 0, .int .i64 0, .int .i64 0, .int .i64 0, .int .i64 0, .slice none 0 0, .slice none 0 0] = C) := ⟨_, rfl⟩
  rw [unhide hC] at R2
  have hz := hide (show C.size = 31 by rw [← unhide hC]; rfl)
  clear hC
  have l1 := hide (show b1 < W.heap.size from heap_lt (unhide R))
  have l2 := hide (show b2 < W.heap.size from heap_lt (unhide R2))
  -- the path
  obtain ⟨c0, c1, c2, c3, c4, c5, c6, c7, c8, c9, c10, c11, c12, c13, c14, c15, c16, c17, c18, c19, c20, c21, c22, c23, c24, c25, c26, c27, c28, c29, c30⟩ := row31 (unhide R)
  go_wp2_with fail
  go_fit (unhide E1 _ (unhide HB))
  rintro r u1 ⟨a1, d1, a2, d2, rfl, o0, o1, hb⟩
  replace o0 := hide o0
  replace o1 := hide o1
  clear c0 c1 c2 c3 c4 c5 c6 c7 c8 c9 c10 c11 c12 c13 c14 c15 c16 c17 c18 c19 c20 c21 c22 c23 c24 c25 c26 c27 c28 c29 c30
  replace R := hide (row_next hb (unhide R))
  replace R2 := hide (row_next hb (unhide R2))
  replace HB := hide (below_two (unhide HB) hb)
  have s1 := hide (show W.heap.size ≤ u1.heap.size from hb.size)
  clear hb
  obtain ⟨c0, c1, c2, c3, c4, c5, c6, c7, c8, c9, c10, c11, c12, c13, c14, c15, c16, c17, c18, c19, c20, c21, c22, c23, c24, c25, c26, c27, c28, c29, c30⟩ := row31 (unhide R)
  have f9 := frozen_of_row u1 b1 9 _ _ (unhide R)
  have f10 := frozen_of_row u1 b1 10 _ _ (unhide R)
  go_upto_region 2 with fail
  clear c0 c1 c2 c3 c4 c5 c6 c7 c8 c9 c10 c11 c12 c13 c14 c15 c16 c17 c18 c19 c20 c21 c22 c23 c24 c25 c26 c27 c28 c29 c30 f9 f10
  replace R := hide (setC (j := 10) (v := .slice a2 x.np d2) (setC (j := 9) (v := .slice a1 x.nv d1) (unhide R)))
  rw [ndC_set9, ndC_set10] at R
  replace R2 := hide (setc_other (b := b1) (j := 10) (v := .slice a2 x.np d2) (Nat.ne_of_gt (unhide lz).2.2) (setc_other (b := b1) (j := 9) (v := .slice a1 x.nv d1) (Nat.ne_of_gt (unhide lz).2.2) (unhide R2)))
  replace HB := hide (((unhide HB).setCell (p := ⟨b1, 9, none⟩) (unhide lz).1 (.slice a1 x.nv d1)).setCell (p := ⟨b1, 10, none⟩) (unhide lz).1 (.slice a2 x.np d2))
  replace o0 := hide (((unhide o0).setc (j := 9) (u := .slice a1 x.nv d1) (unhide l1)).setc (j := 10) (u := .slice a2 x.np d2) (unhide l1))
  replace o1 := hide (((unhide o1).setc (j := 9) (u := .slice a1 x.nv d1) (unhide l1)).setc (j := 10) (u := .slice a2 x.np d2) (unhide l1))
  replace s1 := hide (show W.heap.size ≤ ((u1.setCell ⟨b1, 9, none⟩ (.slice a1 x.nv d1)).setCell ⟨b1, 10, none⟩ (.slice a2 x.np d2)).heap.size by simpa [World.setCell] using unhide s1)
  generalize (u1.setCell ⟨b1, 9, none⟩ (.slice a1 x.nv d1)).setCell ⟨b1, 10, none⟩ (.slice a2 x.np d2) = U1 at R R2 HB o0 o1 s1 ⊢
  clear u1
  obtain ⟨c0, c1, c2, c3, c4, c5, c6, c7, c8, c9, c10, c11, c12, c13, c14, c15, c16, c17, c18, c19, c20, c21, c22, c23, c24, c25, c26, c27, c28, c29, c30⟩ := row31 (unhide R)
  go_wp2_with fail
  go_fit (unhide E3 _ (unhide HB))
  rintro r u2 ⟨a4, d4, a5, d5, rfl, o3, o4, hb⟩
  replace o3 := hide o3
  replace o4 := hide o4
  clear c0 c1 c2 c3 c4 c5 c6 c7 c8 c9 c10 c11 c12 c13 c14 c15 c16 c17 c18 c19 c20 c21 c22 c23 c24 c25 c26 c27 c28 c29 c30
  replace R := hide (row_next hb (unhide R))
  replace R2 := hide (row_next hb (unhide R2))
  replace HB := hide (below_two (unhide HB) hb)
  have q0 := hide (show ∀ k, (Value.slice a1 x.nv d1).ownBlock = some k → k < U1.heap.size from fun k e => ((unhide o0).lt k e).2)
  have q1 := hide (show ∀ k, (Value.slice a2 x.np d2).ownBlock = some k → k < U1.heap.size from fun k e => ((unhide o1).lt k e).2)
  have s2 := hide (show U1.heap.size ≤ u2.heap.size from hb.size)
  replace o0 := hide ((unhide o0).next hb)
  replace o1 := hide ((unhide o1).next hb)
  clear hb
  obtain ⟨c0, c1, c2, c3, c4, c5, c6, c7, c8, c9, c10, c11, c12, c13, c14, c15, c16, c17, c18, c19, c20, c21, c22, c23, c24, c25, c26, c27, c28, c29, c30⟩ := row31 (unhide R)
  have f29 := frozen_of_row u2 b1 29 _ _ (unhide R)
  have f30 := frozen_of_row u2 b1 30 _ _ (unhide R)
  go_upto_region 3 with fail
  clear c0 c1 c2 c3 c4 c5 c6 c7 c8 c9 c10 c11 c12 c13 c14 c15 c16 c17 c18 c19 c20 c21 c22 c23 c24 c25 c26 c27 c28 c29 c30 f29 f30
  have l4 := hide (show b1 < U1.heap.size from Nat.lt_of_lt_of_le (unhide l1) (unhide s1))
  replace R := hide (setC (j := 30) (v := .slice a5 x.mp d5) (setC (j := 29) (v := .slice a4 x.mv d4) (unhide R)))
  rw [ndC_set29, ndC_set30] at R
  replace R2 := hide (setc_other (b := b1) (j := 30) (v := .slice a5 x.mp d5) (Nat.ne_of_gt (unhide lz).2.2) (setc_other (b := b1) (j := 29) (v := .slice a4 x.mv d4) (Nat.ne_of_gt (unhide lz).2.2) (unhide R2)))
  replace HB := hide (((unhide HB).setCell (p := ⟨b1, 29, none⟩) (unhide lz).1 (.slice a4 x.mv d4)).setCell (p := ⟨b1, 30, none⟩) (unhide lz).1 (.slice a5 x.mp d5))
  replace o0 := hide (((unhide o0).setc (j := 29) (u := .slice a4 x.mv d4) (unhide l1)).setc (j := 30) (u := .slice a5 x.mp d5) (unhide l1))
  replace o1 := hide (((unhide o1).setc (j := 29) (u := .slice a4 x.mv d4) (unhide l1)).setc (j := 30) (u := .slice a5 x.mp d5) (unhide l1))
  replace o3 := hide (((unhide o3).setc (j := 29) (u := .slice a4 x.mv d4) (unhide l4)).setc (j := 30) (u := .slice a5 x.mp d5) (unhide l4))
  replace o4 := hide (((unhide o4).setc (j := 29) (u := .slice a4 x.mv d4) (unhide l4)).setc (j := 30) (u := .slice a5 x.mp d5) (unhide l4))
  replace s2 := hide (show U1.heap.size ≤ ((u2.setCell ⟨b1, 29, none⟩ (.slice a4 x.mv d4)).setCell ⟨b1, 30, none⟩ (.slice a5 x.mp d5)).heap.size by simpa [World.setCell] using unhide s2)
  generalize (u2.setCell ⟨b1, 29, none⟩ (.slice a4 x.mv d4)).setCell ⟨b1, 30, none⟩ (.slice a5 x.mp d5) = U2 at R R2 HB o0 o1 o3 o4 s2 ⊢
  clear u2
  -- the dashes
  have q3 := hide (show ∀ k, (Value.slice a4 x.mv d4).ownBlock = some k → k < U2.heap.size from fun k e => ((unhide o3).lt k e).2)
  have q4 := hide (show ∀ k, (Value.slice a5 x.mp d5).ownBlock = some k → k < U2.heap.size from fun k e => ((unhide o4).lt k e).2)
  have l5 := hide (show b1 < U2.heap.size from Nat.lt_of_lt_of_le (unhide l4) (unhide s2))
  have hbA := hide (al1_below U2 (.cells #[] 3))
  have RA := hide (row_next (unhide hbA) (unhide R))
  have RN := hide (new_row U2 (.cells #[] 3))
  obtain ⟨c0, c1, c2, c3, c4, c5, c6, c7, c8, c9, c10, c11, c12, c13, c14, c15, c16, c17, c18, c19, c20, c21, c22, c23, c24, c25, c26, c27, c28, c29, c30⟩ := row31 (unhide RA)
  go_upto_region 4 with (refine wpList_append_ints (B := U2.heap.size) rfl (.tmp 11) (.tmp 13) rfl U2.heap.size (Nat.le_refl _) (unhide RN) (unhide hbA).size rfl s.ad x.nd s.cd x.df rfl (unhide c2') (unhide D2 _ (below_two (unhide HB) (unhide hbA))) n2 ?_; intro a3 d3 u3 o2 g6; have cC := (g6.block b1 (heap_lt (unhide RA)) (fun e => by cases e; exact absurd (unhide l5) (Nat.lt_irrefl _))).trans (unhide RA); have f13 := frozen_of_row u3 b1 13 _ _ cC; have e13 := (row31 cC).2.2.2.2.2.2.2.2.2.2.2.2.2.1; replace cC := hide cC; replace o2 := hide o2; replace g6 := hide g6)
  clear c0 c1 c2 c3 c4 c5 c6 c7 c8 c9 c10 c11 c12 c13 c14 c15 c16 c17 c18 c19 c20 c21 c22 c23 c24 c25 c26 c27 c28 c29 c30 f13 e13
  replace R := hide (setC (j := 13) (v := .slice a3 x.nd d3) (unhide cC))
  rw [ndC_set13] at R
  have kp : ∀ k, k < U2.heap.size → some k ≠ some U2.heap.size := fun k hk e => by cases e; omega
  replace R2 := hide (setc_other (b := b1) (j := 13) (v := .slice a3 x.nd d3) (Nat.ne_of_gt (unhide lz).2.2) (((unhide g6).block b2 (heap_lt (row_next (unhide hbA) (unhide R2))) (kp b2 (heap_lt (unhide R2)))).trans (row_next (unhide hbA) (unhide R2))))
  have hbG := hide (show Below U2.heap.size U2 u3 from (unhide hbA).grown (unhide g6) (unhide hbA).size (fun k hk => by cases hk; exact Nat.le_refl _))
  replace HB := hide ((below_two (unhide HB) (unhide hbG)).setCell (p := ⟨b1, 13, none⟩) (unhide lz).1 (.slice a3 x.nd d3))
  replace o0 := hide (((unhide o0).next (unhide hbG)).setc (j := 13) (u := .slice a3 x.nd d3) (unhide l1))
  replace o1 := hide (((unhide o1).next (unhide hbG)).setc (j := 13) (u := .slice a3 x.nd d3) (unhide l1))
  replace o3 := hide (((unhide o3).next (unhide hbG)).setc (j := 13) (u := .slice a3 x.nd d3) (unhide l4))
  replace o4 := hide (((unhide o4).next (unhide hbG)).setc (j := 13) (u := .slice a3 x.nd d3) (unhide l4))
  replace o2 := hide ((unhide o2).setc (j := 13) (u := .slice a3 x.nd d3) (unhide l5))
  generalize u3.setCell ⟨b1, 13, none⟩ (.slice a3 x.nd d3) = U3 at R R2 HB o0 o1 o2 o3 o4 ⊢
  clear cC g6 RA RN hbA hbG
  obtain ⟨s', hs'⟩ : ∃ t, Hid (t = ({ s with av := a1, cv := d1, ap := a2, cp := d2, ad := a3, cd := d3, bv := a4, dv := d4, bp := a5, dp := d5 } : Na)) := ⟨_, rfl⟩
  replace R := hide (show U3.heap[b1]? = some (.cells (ndC x s') 47 (0, 0)) by rw [unhide hs']; exact unhide R)
  have hG := hide (show NdG U3 W.heap.size x s' by
    rw [unhide hs']
    exact ndG_of (b1 := U2.heap.size) (b2 := U1.heap.size) (b3 := U2.heap.size) (unhide o0) (unhide o1) (unhide o2) (unhide o3) (unhide o4) ⟨fun k e => by have := unhide q0 k e; have := unhide s2; omega, fun k e => by have := unhide q1 k e; have := unhide s2; omega, fun k e => .inr ((unhide o2).lt k e).1, unhide q3, unhide q4⟩ (by have := unhide s1; have := unhide s2; omega))
  clear o0 o1 o2 o3 o4 q0 q1 q3 q4 E1 E3 D2 c2' hs'
  go_wp2_with (first | refine load_own rfl _ rfl b1 rfl x s' 47 (unhide R) ?_ | refine wpList_store_row rfl 47 _ _ rfl b2 (ndC x s') rfl rfl 47 _ (unhide R2) (ndC_info x s') (by rw [unhide hz]; rfl) (ndC_one x s') ?_)
  have R2' := hide (setRow_heap _ _ _ (ndC x s') _ _ (unhide R2))
  refine bodyPost_ret (v := .agg (ndC x s')) (results_cell_row rfl _ _ b2 47 _ (0, 0) _ rfl (unhide R2') Tryz.underlying47 rfl (ndC_info x s')) rfl ⟨s', rfl, ((unhide hG).setRow (unhide l2)).low ?_, below_setRow (unhide HB) (unhide lz).2.1 _⟩
  exact Nat.le_trans (unhide lz).1 (Nat.le_of_lt (unhide l1))

end Go.Proofs.YtdbphpekhmlmdaaGreatDoor

/-
  Lists of numbers held against each other.
-/
namespace Go.Proofs.YtdbphpekhmlmdaaGreatDoor
open Go.RowKit
set_option linter.unusedVariables false

set_option maxHeartbeats 4000000 in
set_option maxRecDepth 100000 in
theorem sameInts_any (f : Nat → Int) (ao bo : Option Addr) (n cap cap' : Nat) (hn : n ≤ 1048576) (w : World) (HA : ∀ i, i < n → IntAt w ao i (f i)) (HB : ∀ i, i < n → IntAt w bo i (f i)) :
    Calls Tryz.prog 40 #[.slice ao n cap, .slice bo n cap'] w fun r w' => r = .returned (.bool true) ∧ Below w.heap.size w w' := by
  replace HA := hide HA
  replace HB := hide HB
  go_enter Tryz.func40, Tryz.ntmps40
  go_wp2_with fail
  go_loopw [5] (fun i u => ∃ k : Nat, k ≤ n ∧ i = .int .i64 k ∧ Below w.heap.size w u) (fun i _ => n - (intOf i).toNat)
  case atStart => exact ⟨0, Nat.zero_le _, rfl, Below.refl _ _⟩
  case round =>
    obtain ⟨k, hk, rfl, hb⟩ := hrel
    by_cases hlt : k < n
    · have HP := (unhide HA k hlt).next hb
      have HQ := (unhide HB k hlt).next hb
      generalize f k = z at HP HQ
      obtain ⟨s, o, rfl, g0⟩ := HP
      obtain ⟨s', o', rfl, h0⟩ := HQ
      replace hb := hide hb
      go_wp2_with fail
      obtain ⟨I, F, hI, F1, F2⟩ := kept_worlds wr
      have a0 : ∀ i, (F i).cell? ⟨s, o + k, none⟩ = some (.int .i64 z) := fun i => kc (F2 i) g0
      have b0 : ∀ i, (F i).cell? ⟨s', o' + k, none⟩ = some (.int .i64 z) := fun i => kc (F2 i) h0
      clear g0 h0
      replace F1 := hide F1
      replace F2 := hide F2
      refine wp_region_quiet_in (unhide F1) (by kernel_rfl) (by kernel_rfl) ?_
      repeat (go_big_quiet_step (fail))
      refine wpQuiet_nil ?_
      rintro _ ⟨i, rfl⟩
      have hF := unhide F2 i
      clear F1 a0 b0
      go_wp2_with fail
      go_roundw
      case rel => exact ⟨k + 1, by omega, by go_num, below_two (unhide hb) hF⟩
      case measure => simp [intOf]; omega
    · have hke : k = n := by omega
      subst hke
      go_wp2_with fail
      go_ret
      exact ⟨rfl, hb⟩
end Go.Proofs.YtdbphpekhmlmdaaGreatDoor

/-
  Whether a number is in a list; lists of Ids as FnTrees reads them; a node's alloc. (By treeslaw.py.)
-/
namespace Go.Proofs.YtdbphpekhmlmdaaGreatDoor
open Go.RowKit
set_option linter.unusedVariables false

theorem node_small {x : Nd} (h : nodeOkB x = true) : x.Small := by
  unfold nodeOkB at h
  simp only [Bool.and_eq_true] at h
  obtain ⟨_, _, _, _, h5, h6, _, h8, _⟩ := h
  have r1 := rightB_iff.1 h5
  have r2 := rightB_iff.1 h6
  have r3 := dashOk_iff.1 h8
  have := r1.nv24; have := r1.np24; have := r2.nv24; have := r2.np24; have := r3.2.1
  exact ⟨by omega, by omega, by omega, by omega, by omega⟩
theorem nd_heads {w : World} {b : Nat} {x : Nd} {s : Na} {t : TypeId} (h : w.heap[b]? = some (.cells (ndC x s) t (0, 0))) : w.cell? ⟨b, 0, none⟩ = some (.int .i64 x.id) ∧ w.cell? ⟨b, 1, none⟩ = some (.int .i64 x.par) :=
  ⟨by rw [cell_of_row w b 0 _ t (0, 0) h]; rfl, by rw [cell_of_row w b 1 _ t (0, 0) h]; rfl⟩
theorem nd_rng {w : World} {b : Nat} {C : Array Value} {t : TypeId} (h : w.heap[b]? = some (.cells C t (0, 0))) : w.rangeAt b 0 C.toList := fun j v hv => by
  rw [Array.getElem?_toList] at hv
  simp [World.cell?, h, hv]
end Go.Proofs.YtdbphpekhmlmdaaGreatDoor

/-
  Drawn nodes of any kind: l15AnyNode. (By drawanode.py.)
-/
namespace Go.Proofs.YtdbphpekhmlmdaaGreatDoor
open Go.RowKit
set_option linter.unusedVariables false

theorem intAt_kept {w u : World} {a : Option Addr} {i n c : Nat} {z : Int} {row : Option Nat} (h : IntAt w a i z) (hg : w.grownBy u row) (hr : ∀ k, (Value.slice a n c).ownBlock = some k → row ≠ some k) : IntAt u a i z := by
  obtain ⟨s, o, rfl, hc⟩ := h
  have e := hg.block s (block_lt_of_cell hc) (fun e => hr s rfl e.symm)
  exact ⟨s, o, rfl, by rw [← hc]; simp [World.cell?, e]⟩
theorem ptArg_kept {w u : World} {a : Option Addr} {i n c : Nat} {z : Int × Int} {row : Option Nat} (h : PtArg w a i z) (hg : w.grownBy u row) (hr : ∀ k, (Value.slice a n c).ownBlock = some k → row ≠ some k) : PtArg u a i z := by
  obtain ⟨s, o, rfl, h1, h2⟩ := h
  have e := hg.block s (block_lt_of_cell h1) (fun e => hr s rfl e.symm)
  exact ⟨s, o, rfl, by rw [← h1]; simp [World.cell?, e], by rw [← h2]; simp [World.cell?, e]⟩
/-- A node's lists stay where its blocks are not written. -/
theorem NdIn.kept {w u : World} {x : Nd} {s : Na} {row : Option Nat} (h : NdIn w x s) (hg : w.grownBy u row) (hr : ∀ l, l < 5 → 0 < lnl x l → ∀ k, (lvl x s l).ownBlock = some k → row ≠ some k) : NdIn u x s :=
  ⟨fun i hi => intAt_kept (h.v i hi) hg (hr 0 (by decide) (Nat.zero_lt_of_lt hi)), fun i hi => ptArg_kept (h.p i hi) hg (hr 1 (by decide) (Nat.zero_lt_of_lt hi)), fun i hi => intAt_kept (h.d i hi) hg (hr 2 (by decide) (Nat.zero_lt_of_lt hi)), fun i hi => intAt_kept (h.cv i hi) hg (hr 3 (by decide) (Nat.zero_lt_of_lt hi)), fun i hi => ptArg_kept (h.cp i hi) hg (hr 4 (by decide) (Nat.zero_lt_of_lt hi))⟩
/-- A list with something in it lies in memory. -/
theorem NdIn.lt {w : World} {x : Nd} {s : Na} (h : NdIn w x s) {l : Nat} (hl : l < 5) (hn : 0 < lnl x l) : ∀ k, (lvl x s l).ownBlock = some k → k < w.heap.size := by
  intro k e
  rcases (by omega : l = 0 ∨ l = 1 ∨ l = 2 ∨ l = 3 ∨ l = 4) with rfl | rfl | rfl | rfl | rfl
  · obtain ⟨b, o, e1, hc⟩ := h.v 0 hn; simp only [lvl, e1, Value.ownBlock] at e; cases e; exact block_lt_of_cell hc
  · obtain ⟨b, o, e1, hc, _⟩ := h.p 0 hn; simp only [lvl, e1, Value.ownBlock] at e; cases e; exact block_lt_of_cell hc
  · obtain ⟨b, o, e1, hc⟩ := h.d 0 hn; simp only [lvl, e1, Value.ownBlock] at e; cases e; exact block_lt_of_cell hc
  · obtain ⟨b, o, e1, hc⟩ := h.cv 0 hn; simp only [lvl, e1, Value.ownBlock] at e; cases e; exact block_lt_of_cell hc
  · obtain ⟨b, o, e1, hc, _⟩ := h.cp 0 hn; simp only [lvl, e1, Value.ownBlock] at e; cases e; exact block_lt_of_cell hc
/-- A node of any kind: its lists can be read, and lie behind base. -/
structure NdF (w : World) (base : Nat) (x : Nd) (s : Na) : Prop where
  inn : NdIn w x s
  caps : Caps x s
  small : x.Small
  wid : (Lit.int .i64 x.id).wf = true
  wpar : (Lit.int .i64 x.par).wf = true
  far : ∀ l, l < 5 → ∀ k, (lvl x s l).ownBlock = some k → base ≤ k
theorem NdF.next {w u : World} {base : Nat} {x : Nd} {s : Na} (h : NdF w base x s) (hb : Below w.heap.size w u) : NdF u base x s := ⟨h.inn.next hb, h.caps, h.small, h.wid, h.wpar, h.far⟩
theorem NdF.low {w : World} {base base' : Nat} {x : Nd} {s : Na} (h : NdF w base x s) (hb : base' ≤ base) : NdF w base' x s := ⟨h.inn, h.caps, h.small, h.wid, h.wpar, fun l hl k e => Nat.le_trans hb (h.far l hl k e)⟩
theorem NdF.kept {w u : World} {base k : Nat} {x : Nd} {s : Na} (h : NdF w base x s) (hg : w.grownBy u (some k)) (hk : k < base) : NdF u base x s := ⟨h.inn.kept hg (fun l hl _ q e e2 => by cases e2; have := h.far l hl _ e; omega), h.caps, h.small, h.wid, h.wpar, h.far⟩
theorem NdG.ndF {w : World} {base : Nat} {x : Nd} {s : Na} (h : NdG w base x s) (hs : x.Small) (w1 : (Lit.int .i64 x.id).wf = true) (w2 : (Lit.int .i64 x.par).wf = true) : NdF w base x s := ⟨lists_in h.own, lists_caps h.own, hs, w1, w2, fun l hl k e => ((h.own l hl).lt k e).1⟩
theorem Caps.same {x x' : Nd} {s : Na} (h : Caps x s) (e1 : x'.nv = x.nv := by rfl) (e2 : x'.np = x.np := by rfl) (e3 : x'.nd = x.nd := by rfl) (e4 : x'.mv = x.mv := by rfl) (e5 : x'.mp = x.mp := by rfl) : Caps x' s := ⟨by rw [e1]; exact h.v, by rw [e2]; exact h.p, by rw [e3]; exact h.d, by rw [e4]; exact h.cv, by rw [e5]; exact h.cp⟩
theorem set_id (x : Nd) (s : Na) (z : Int) : (ndC x s).setIfInBounds 0 (.int .i64 z) = ndC { x with id := z } s := by simp only [ndC, List.setIfInBounds_toArray, List.set_cons_zero]
theorem set_par (x : Nd) (s : Na) (z : Int) : (ndC x s).setIfInBounds 1 (.int .i64 z) = ndC { x with par := z } s := by simp only [ndC, List.setIfInBounds_toArray, List.set_cons_zero, List.set_cons_succ]
theorem set_md (x : Nd) (s : Na) (z : Int) : (ndC x s).setIfInBounds 27 (.int .i64 z) = ndC { x with md := z } s := by simp only [ndC, List.setIfInBounds_toArray, List.set_cons_zero, List.set_cons_succ]
theorem set_fd (x : Nd) (s : Na) (z : Int) : (ndC x s).setIfInBounds 28 (.int .i64 z) = ndC { x with fd := z } s := by simp only [ndC, List.setIfInBounds_toArray, List.set_cons_zero, List.set_cons_succ]
/-- The drawing of a node of any kind: the variable x (block b3), the answer's (block b2). -/
structure NQ (w u : World) (g B : Nat) (a : Option Addr) (len cap b2 b3 : Nat) (x : Nd) (s : Na) : Prop where
  ds : DS w u g B a len cap
  r2 : ∃ C, u.heap[b2]? = some (.cells C 47 (0, 0)) ∧ C.size = 31
  r3 : u.heap[b3]? = some (.cells (ndC x s) 47 (0, 0))
  f : NdF u (b2 + 1) x s
  ne : ∀ l, l < 5 → ∀ k, (lvl x s l).ownBlock = some k → k ≠ b3
  lo : w.heap.size ≤ b2 ∧ b2 < b3
theorem NQ.draw {w u u' : World} {g B : Nat} {a : Option Addr} {len cap b2 b3 : Nat} {x : Nd} {s : Na} (h : NQ w u g B a len cap b2 b3 x s) (hc : Cur u' g a len cap) (hg : u.grownBy u' (some g)) : NQ w u' g B a len cap b2 b3 x s :=
  ⟨h.ds.next hc hg, let ⟨C, h1, h2⟩ := h.r2; ⟨C, h.ds.heap hg h.lo.1 h1, h2⟩, h.ds.heap hg (by have := h.lo; omega) h.r3, h.f.kept hg (by have := h.lo; have := h.ds.lt; omega), h.ne, h.lo⟩
theorem NQ.calls {w u u' : World} {g B : Nat} {a : Option Addr} {len cap b2 b3 : Nat} {x : Nd} {s : Na} (h : NQ w u g B a len cap b2 b3 x s) (hb : Below u.heap.size u u') : NQ w u' g B a len cap b2 b3 x s :=
  ⟨h.ds.calls hb, let ⟨C, h1, h2⟩ := h.r2; ⟨C, row_next hb h1, h2⟩, row_next hb h.r3, h.f.next hb, h.ne, h.lo⟩
theorem NQ.in3 {w u : World} {g B : Nat} {a : Option Addr} {len cap b2 b3 j : Nat} {x : Nd} {s : Na} {v : Value} (h : NQ w u g B a len cap b2 b3 x s) : NdIn (u.setCell ⟨b3, j, none⟩ v) x s := h.f.inn.kept (setc_grown u b3 j v) (fun l hl _ k e e2 => h.ne l hl k e (Option.some.inj e2).symm)
theorem NQ.put {w u : World} {g B : Nat} {a : Option Addr} {len cap b2 b3 j : Nat} {x : Nd} {s : Na} {v : Value} (h : NQ w u g B a len cap b2 b3 x s) {x' : Nd} {s' : Na} (he : (ndC x s).setIfInBounds j v = ndC x' s') (ho : NdF (u.setCell ⟨b3, j, none⟩ v) (b2 + 1) x' s') (hn : ∀ l, l < 5 → ∀ k, (lvl x' s' l).ownBlock = some k → k ≠ b3) : NQ w (u.setCell ⟨b3, j, none⟩ v) g B a len cap b2 b3 x' s' :=
  ⟨h.ds.put j v (by have := h.lo; omega), let ⟨C, h1, h2⟩ := h.r2; ⟨C, setc_other (by have := h.lo; omega) h1, h2⟩, by rw [← he]; exact setC h.r3, ho, hn, h.lo⟩
theorem sets_grown2 (g : Nat) : ∀ (l : List Value) (w : World) (o : Nat), w.grownBy (w.setCells g o l) (some g)
  | [], w, _ => World.grownBy.refl w _
  | v :: r, w, o => grown_trans (setc_grown w g o v) (sets_grown2 g r _ (o + 1))
theorem NQ.puts {w u : World} {g B : Nat} {a : Option Addr} {len cap b2 b3 o : Nat} {x : Nd} {s : Na} (l : List Value) (h : NQ w u g B a len cap b2 b3 x s) {x' : Nd} {s' : Na} (he : setMany (ndC x s) o l = ndC x' s') (ho : NdF (u.setCells b3 o l) (b2 + 1) x' s') (hn : ∀ l, l < 5 → ∀ k, (lvl x' s' l).ownBlock = some k → k ≠ b3) : NQ w (u.setCells b3 o l) g B a len cap b2 b3 x' s' :=
  ⟨h.ds.sets (by have := h.lo; omega) l, let ⟨C, h1, h2⟩ := h.r2; ⟨C, sets_other (by have := h.lo; omega) l h1, h2⟩, by rw [← he]; exact setsC l h.r3, ho, hn, h.lo⟩
def AnyNode (w : World) (e : Ending) (w' : World) : Prop := ∃ x s, e = .returned (.agg (ndC x s)) ∧ NdF w' w.heap.size x s
theorem AnyPath.lists {u : World} {v1 v2 : Value} {base : Nat} (h : AnyP v1 v2 u) (hc : CapP base v1 v2) : ∃ (a : Option Addr) (n c : Nat) (b : Option Addr) (m d : Nat) (vf : Nat → Int) (pf : Nat → Int × Int), v1 = .slice a n c ∧ v2 = .slice b m d ∧ n ≤ 24 ∧ m ≤ 24 ∧ (n ≤ c ∧ (a = none → c = 0)) ∧ (m ≤ d ∧ (b = none → d = 0)) ∧ (∀ q, a = some q → base ≤ q.block) ∧ (∀ q, b = some q → base ≤ q.block) ∧ (∀ i, i < n → IntAt u a i (vf i)) ∧ ∀ i, i < m → PtArg u b i (pf i) := by
  obtain ⟨a, n, c, b, m, d, rfl, rfl, h1, h2, _, h3, h4⟩ := h
  obtain ⟨a', n', c', b', m', d', e1, e2, h5, h6, h7, h8⟩ := hc
  cases e1; cases e2
  refine ⟨a, n, c, b, m, d, fun i => if hi : i < n then Classical.choose (h3 i hi) else 0, fun i => if hi : i < m then Classical.choose (h4 i hi) else (0, 0), rfl, rfl, h1, h2, h5, h6, h7, h8, fun i hi => ?_, fun i hi => ?_⟩
  · dsimp only; rw [dif_pos hi]; exact Classical.choose_spec (h3 i hi)
  · dsimp only; rw [dif_pos hi]; exact Classical.choose_spec (h4 i hi)

set_option maxHeartbeats 16000000 in
set_option maxRecDepth 100000 in
theorem l15AnyNode_any (g B : Nat) (a : Option Addr) (len cap : Nat) (w : World) (hl : len ≤ 1048576) (h : DS w w g B a len cap) :
    Calls Tryz.prog 47 #[.pointer (some ⟨g, 0, none⟩)] w fun e w' => AnyNode w e w' ∧ DS w w' g B a len cap := by
  go_enter Tryz.func47, Tryz.ntmps47
  go_upto_region 1 with fail
  have D := hide (h.alloc (.cells ndZ 47))
  have R2 := hide (new_row w (.cells ndZ 47))
  change Code.wp _ _ _ _ (w.alloc (.cells ndZ 47))
  generalize w.alloc (.cells ndZ 47) = W at D R2 ⊢
  obtain ⟨b2, hb2⟩ : ∃ b, Hid (b = w.heap.size) := ⟨_, rfl⟩
  have l2 : Hid (w.heap.size ≤ b2) := by unfold Hid; rw [unhide hb2]; exact Nat.le_refl _
  rw [← unhide hb2] at R2 ⊢
  clear h hb2
  go_wp2_with fail
  go_fit (draw_any (unhide D) hl 8 (by omega) (by omega))
  rintro e w1 ⟨k, hk, rfl, d, hg⟩
  replace R2 := hide ((unhide D).heap hg (unhide l2) (unhide R2))
  replace D := hide d
  clear d hg
  have hkw : IntKind.i64.wrap (1 + (k : Int)) = 1 + (k : Int) := IntWalk.i64_in _ (by omega)
  go_wp2_with fail
  go_fit (l15Node_any g B a len cap (1 + (k : Int)) 0 ⟨by omega, by omega⟩ ⟨by omega, by omega⟩ (by omega) _ hl (unhide D).again)
  rintro e w2 ⟨⟨x0, s0, rfl, hN, hok, hi1, hi2⟩, d⟩
  have w01 : (Lit.int .i64 x0.id).wf = true := WalkArith.wf_i64 (by omega)
  have w02 : (Lit.int .i64 x0.par).wf = true := WalkArith.wf_i64 (by omega)
  replace R2 := hide ((unhide D).heap d.gb (unhide l2) (unhide R2))
  replace D := hide ((unhide D).next d.cur d.gb)
  clear d hkw hi1 hi2
  have hsm := node_small hok
  go_wp2_with fail
  go_fit (specCopyNode_any x0 s0 hsm hN.caps _ hN.inn)
  rintro e w3 ⟨s, rfl, hG, hb⟩
  have F3 := (hG.ndF hsm w01 w02).low (show b2 + 1 ≤ w2.heap.size from heap_lt (unhide R2))
  have far3 : ∀ l, l < 5 → ∀ k, (lvl x0 s l).ownBlock = some k → k < w3.heap.size := fun l hl k e => ((hG.own l hl).lt k e).2
  replace R2 := hide (row_next hb (unhide R2))
  replace D := hide ((unhide D).calls hb)
  clear hb hG hN hok
  go_upto_region 2 with (refine store_new rfl _ _ rfl _ x0 s rfl rfl rfl ?_)
  have N := hide (show NQ w (w3.alloc (.cells (ndC x0 s) 47)) g B a len cap b2 w3.heap.size x0 s from ⟨(unhide D).alloc _, ⟨ndZ, old_row _ (unhide R2), rfl⟩, new_row _ _, F3.next (al1_below _ _), fun l hl k e => by have := far3 l hl k e; omega, unhide l2, heap_lt (unhide R2)⟩)
  clear D R2 F3 far3 hsm w01 w02 l2
  generalize w3.alloc (.cells (ndC x0 s) 47) = W2 at N ⊢
  generalize w3.heap.size = b3 at N ⊢
  generalize x0 = x at N ⊢
  go_wp2_with fail
  go_fit (draw_any (unhide N).ds hl 20 (by omega) (by omega))
  rintro r w4 ⟨t, ht, rfl, d, g2⟩
  replace N := hide ((unhide N).draw d.cur g2)
  clear d g2
  obtain rfl | rfl | rfl | rfl | rfl | rfl | rfl | rfl | hx8 : t = 0 ∨ t = 1 ∨ t = 2 ∨ t = 3 ∨ t = 4 ∨ t = 5 ∨ t = 6 ∨ t = 7 ∨ 8 ≤ t := by omega
  · skip
    go_wp2_with fail
    go_fit (pick4L (unhide N).ds hl 0 (-1) 99 100)
    rintro r w5 ⟨z, hz, rfl, d, g3⟩
    replace N := hide (((unhide N).calls (al1_below _ _)).draw d.cur g3)
    clear d g3
    have q1 := cellC (unhide N).r3 0 (by rw [ndC_size]; omega)
    have z1 := frozen_of_row w5 b3 0 _ _ (unhide N).r3
    go_upto_region 19 with fail
    clear q1 z1
    have N1 := hide (unhide N)
    replace N := hide (show NQ w (w5.setCell ⟨b3, 0, none⟩ (.int .i64 z)) g B a len cap b2 b3 { x with id := z } s from by
      have h := (unhide N1).f
      have q := unhide N1
      exact q.put (set_id _ _ z) ⟨⟨q.in3.v, q.in3.p, q.in3.d, q.in3.cv, q.in3.cp⟩, h.caps.same, ⟨h.small.nv, h.small.np, h.small.nd, h.small.mv, h.small.mp⟩, by show (Lit.int .i64 z).wf = true; rcases hz with rfl | rfl | rfl | rfl <;> decide, h.wpar, fun l hl k e => h.far l hl k (by rw [← e]; rcases (by omega : l = 0 ∨ l = 1 ∨ l = 2 ∨ l = 3 ∨ l = 4) with rfl | rfl | rfl | rfl | rfl <;> rfl)⟩ (fun l hl k e => q.ne l hl k (by rw [← e]; rcases (by omega : l = 0 ∨ l = 1 ∨ l = 2 ∨ l = 3 ∨ l = 4) with rfl | rfl | rfl | rfl | rfl <;> rfl)))
    clear N1
    generalize w5.setCell ⟨b3, 0, none⟩ (.int .i64 z) = WS at N ⊢
    obtain ⟨y, hy⟩ : ∃ y : Nd, Hid ({ x with id := z } = y) := ⟨_, rfl⟩
    rw [unhide hy] at N
    clear hy
    obtain ⟨C2, r2, z2⟩ := (unhide N).r2
    replace r2 := hide r2
    have hlo := hide (unhide N).lo
    go_wp2_with (first | with_reducible refine load_own rfl _ rfl b3 rfl y s 47 (unhide N).r3 ?_ | with_reducible refine wpList_store_row rfl 47 _ _ rfl b2 (ndC y s) rfl rfl 47 _ (unhide r2) (ndC_info y s) (z2.trans (ndC_size y s).symm) (ndC_one y s) ?_)
    have r2' := hide (setRow_heap _ _ _ (ndC y s) _ _ (unhide r2))
    refine bodyPost_ret (v := .agg (ndC y s)) (results_cell_row rfl _ _ b2 47 _ (0, 0) _ rfl (unhide r2') Tryz.underlying47 rfl (ndC_info y s)) rfl ?_
    exact ⟨⟨y, s, rfl, (((unhide N).f.kept (setRow_grown _ b2 _) (Nat.lt_succ_self b2)).low (by have := unhide hlo; omega))⟩, (unhide N).ds.setRow (unhide hlo).1⟩
  · skip
    have c0 := (nd_heads (unhide N).r3).1
    go_wp2_with fail
    go_fit (pick4L (unhide N).ds hl (-1) x.id 3 100)
    rintro r w5 ⟨z, hz, rfl, d, g3⟩
    replace N := hide (((unhide N).calls (al1_below _ _)).draw d.cur g3)
    clear d g3 c0
    have q1 := cellC (unhide N).r3 1 (by rw [ndC_size]; omega)
    have z1 := frozen_of_row w5 b3 1 _ _ (unhide N).r3
    go_upto_region 19 with fail
    clear q1 z1
    have N1 := hide (unhide N)
    replace N := hide (show NQ w (w5.setCell ⟨b3, 1, none⟩ (.int .i64 z)) g B a len cap b2 b3 { x with par := z } s from by
      have h := (unhide N1).f
      have q := unhide N1
      exact q.put (set_par _ _ z) ⟨⟨q.in3.v, q.in3.p, q.in3.d, q.in3.cv, q.in3.cp⟩, h.caps.same, ⟨h.small.nv, h.small.np, h.small.nd, h.small.mv, h.small.mp⟩, h.wid, by have h1 := h.wid; show (Lit.int .i64 z).wf = true; rcases hz with rfl | rfl | rfl | rfl <;> first | exact h1 | decide, fun l hl k e => h.far l hl k (by rw [← e]; rcases (by omega : l = 0 ∨ l = 1 ∨ l = 2 ∨ l = 3 ∨ l = 4) with rfl | rfl | rfl | rfl | rfl <;> rfl)⟩ (fun l hl k e => q.ne l hl k (by rw [← e]; rcases (by omega : l = 0 ∨ l = 1 ∨ l = 2 ∨ l = 3 ∨ l = 4) with rfl | rfl | rfl | rfl | rfl <;> rfl)))
    clear N1
    generalize w5.setCell ⟨b3, 1, none⟩ (.int .i64 z) = WS at N ⊢
    obtain ⟨y, hy⟩ : ∃ y : Nd, Hid ({ x with par := z } = y) := ⟨_, rfl⟩
    rw [unhide hy] at N
    clear hy
    obtain ⟨C2, r2, z2⟩ := (unhide N).r2
    replace r2 := hide r2
    have hlo := hide (unhide N).lo
    go_wp2_with (first | with_reducible refine load_own rfl _ rfl b3 rfl y s 47 (unhide N).r3 ?_ | with_reducible refine wpList_store_row rfl 47 _ _ rfl b2 (ndC y s) rfl rfl 47 _ (unhide r2) (ndC_info y s) (z2.trans (ndC_size y s).symm) (ndC_one y s) ?_)
    have r2' := hide (setRow_heap _ _ _ (ndC y s) _ _ (unhide r2))
    refine bodyPost_ret (v := .agg (ndC y s)) (results_cell_row rfl _ _ b2 47 _ (0, 0) _ rfl (unhide r2') Tryz.underlying47 rfl (ndC_info y s)) rfl ?_
    exact ⟨⟨y, s, rfl, (((unhide N).f.kept (setRow_grown _ b2 _) (Nat.lt_succ_self b2)).low (by have := unhide hlo; omega))⟩, (unhide N).ds.setRow (unhide hlo).1⟩
  · skip
    go_wp2_with fail
    go_fit (draw_any (unhide N).ds hl 7 (by omega) (by omega))
    rintro r w5 ⟨z0, hz, rfl, d, g3⟩
    replace N := hide ((unhide N).draw d.cur g3)
    clear d g3
    obtain ⟨z, hz'⟩ : ∃ z : Int, (z0 : Int) = z := ⟨_, rfl⟩
    rw [hz']
    have q1 := cellC (unhide N).r3 27 (by rw [ndC_size]; omega)
    have z1 := frozen_of_row w5 b3 27 _ _ (unhide N).r3
    go_upto_region 19 with fail
    clear q1 z1 hz' hz
    have N1 := hide (unhide N)
    replace N := hide (show NQ w (w5.setCell ⟨b3, 27, none⟩ (.int .i64 z)) g B a len cap b2 b3 { x with md := z } s from by
      have h := (unhide N1).f
      have q := unhide N1
      exact q.put (set_md _ _ z) ⟨⟨q.in3.v, q.in3.p, q.in3.d, q.in3.cv, q.in3.cp⟩, h.caps.same, ⟨h.small.nv, h.small.np, h.small.nd, h.small.mv, h.small.mp⟩, h.wid, h.wpar, fun l hl k e => h.far l hl k (by rw [← e]; rcases (by omega : l = 0 ∨ l = 1 ∨ l = 2 ∨ l = 3 ∨ l = 4) with rfl | rfl | rfl | rfl | rfl <;> rfl)⟩ (fun l hl k e => q.ne l hl k (by rw [← e]; rcases (by omega : l = 0 ∨ l = 1 ∨ l = 2 ∨ l = 3 ∨ l = 4) with rfl | rfl | rfl | rfl | rfl <;> rfl)))
    clear N1
    generalize w5.setCell ⟨b3, 27, none⟩ (.int .i64 z) = WS at N ⊢
    obtain ⟨y, hy⟩ : ∃ y : Nd, Hid ({ x with md := z } = y) := ⟨_, rfl⟩
    rw [unhide hy] at N
    clear hy
    obtain ⟨C2, r2, z2⟩ := (unhide N).r2
    replace r2 := hide r2
    have hlo := hide (unhide N).lo
    go_wp2_with (first | with_reducible refine load_own rfl _ rfl b3 rfl y s 47 (unhide N).r3 ?_ | with_reducible refine wpList_store_row rfl 47 _ _ rfl b2 (ndC y s) rfl rfl 47 _ (unhide r2) (ndC_info y s) (z2.trans (ndC_size y s).symm) (ndC_one y s) ?_)
    have r2' := hide (setRow_heap _ _ _ (ndC y s) _ _ (unhide r2))
    refine bodyPost_ret (v := .agg (ndC y s)) (results_cell_row rfl _ _ b2 47 _ (0, 0) _ rfl (unhide r2') Tryz.underlying47 rfl (ndC_info y s)) rfl ?_
    exact ⟨⟨y, s, rfl, (((unhide N).f.kept (setRow_grown _ b2 _) (Nat.lt_succ_self b2)).low (by have := unhide hlo; omega))⟩, (unhide N).ds.setRow (unhide hlo).1⟩
  · skip
    go_wp2_with fail
    go_fit (pick2L (unhide N).ds hl (-1) 256)
    rintro r w5 ⟨z, _, rfl, d, g3⟩
    replace N := hide (((unhide N).calls (al1_below _ _)).draw d.cur g3)
    clear d g3
    have q1 := cellC (unhide N).r3 28 (by rw [ndC_size]; omega)
    have z1 := frozen_of_row w5 b3 28 _ _ (unhide N).r3
    go_upto_region 19 with fail
    clear q1 z1
    have N1 := hide (unhide N)
    replace N := hide (show NQ w (w5.setCell ⟨b3, 28, none⟩ (.int .i64 z)) g B a len cap b2 b3 { x with fd := z } s from by
      have h := (unhide N1).f
      have q := unhide N1
      exact q.put (set_fd _ _ z) ⟨⟨q.in3.v, q.in3.p, q.in3.d, q.in3.cv, q.in3.cp⟩, h.caps.same, ⟨h.small.nv, h.small.np, h.small.nd, h.small.mv, h.small.mp⟩, h.wid, h.wpar, fun l hl k e => h.far l hl k (by rw [← e]; rcases (by omega : l = 0 ∨ l = 1 ∨ l = 2 ∨ l = 3 ∨ l = 4) with rfl | rfl | rfl | rfl | rfl <;> rfl)⟩ (fun l hl k e => q.ne l hl k (by rw [← e]; rcases (by omega : l = 0 ∨ l = 1 ∨ l = 2 ∨ l = 3 ∨ l = 4) with rfl | rfl | rfl | rfl | rfl <;> rfl)))
    clear N1
    generalize w5.setCell ⟨b3, 28, none⟩ (.int .i64 z) = WS at N ⊢
    obtain ⟨y, hy⟩ : ∃ y : Nd, Hid ({ x with fd := z } = y) := ⟨_, rfl⟩
    rw [unhide hy] at N
    clear hy
    obtain ⟨C2, r2, z2⟩ := (unhide N).r2
    replace r2 := hide r2
    have hlo := hide (unhide N).lo
    go_wp2_with (first | with_reducible refine load_own rfl _ rfl b3 rfl y s 47 (unhide N).r3 ?_ | with_reducible refine wpList_store_row rfl 47 _ _ rfl b2 (ndC y s) rfl rfl 47 _ (unhide r2) (ndC_info y s) (z2.trans (ndC_size y s).symm) (ndC_one y s) ?_)
    have r2' := hide (setRow_heap _ _ _ (ndC y s) _ _ (unhide r2))
    refine bodyPost_ret (v := .agg (ndC y s)) (results_cell_row rfl _ _ b2 47 _ (0, 0) _ rfl (unhide r2') Tryz.underlying47 rfl (ndC_info y s)) rfl ?_
    exact ⟨⟨y, s, rfl, (((unhide N).f.kept (setRow_grown _ b2 _) (Nat.lt_succ_self b2)).low (by have := unhide hlo; omega))⟩, (unhide N).ds.setRow (unhide hlo).1⟩
  · skip
    go_wp2_with fail
    go_fit (pick2L (unhide N).ds hl (-1) 2049)
    rintro r w5 ⟨z, _, rfl, d, g3⟩
    replace N := hide (((unhide N).calls (al1_below _ _)).draw d.cur g3)
    clear d g3
    have q1 := cellC (unhide N).r3 12 (by rw [ndC_size]; omega)
    have z1 := frozen_of_row w5 b3 12 _ _ (unhide N).r3
    go_upto_region 19 with fail
    clear q1 z1
    have N1 := hide (unhide N)
    replace N := hide (show NQ w (w5.setCell ⟨b3, 12, none⟩ (.int .i64 z)) g B a len cap b2 b3 { x with wd := z } s from by
      have h := (unhide N1).f
      have q := unhide N1
      exact q.put (set_wd _ _ z) ⟨⟨q.in3.v, q.in3.p, q.in3.d, q.in3.cv, q.in3.cp⟩, h.caps.same, ⟨h.small.nv, h.small.np, h.small.nd, h.small.mv, h.small.mp⟩, h.wid, h.wpar, fun l hl k e => h.far l hl k (by rw [← e]; rcases (by omega : l = 0 ∨ l = 1 ∨ l = 2 ∨ l = 3 ∨ l = 4) with rfl | rfl | rfl | rfl | rfl <;> rfl)⟩ (fun l hl k e => q.ne l hl k (by rw [← e]; rcases (by omega : l = 0 ∨ l = 1 ∨ l = 2 ∨ l = 3 ∨ l = 4) with rfl | rfl | rfl | rfl | rfl <;> rfl)))
    clear N1
    generalize w5.setCell ⟨b3, 12, none⟩ (.int .i64 z) = WS at N ⊢
    obtain ⟨y, hy⟩ : ∃ y : Nd, Hid ({ x with wd := z } = y) := ⟨_, rfl⟩
    rw [unhide hy] at N
    clear hy
    obtain ⟨C2, r2, z2⟩ := (unhide N).r2
    replace r2 := hide r2
    have hlo := hide (unhide N).lo
    go_wp2_with (first | with_reducible refine load_own rfl _ rfl b3 rfl y s 47 (unhide N).r3 ?_ | with_reducible refine wpList_store_row rfl 47 _ _ rfl b2 (ndC y s) rfl rfl 47 _ (unhide r2) (ndC_info y s) (z2.trans (ndC_size y s).symm) (ndC_one y s) ?_)
    have r2' := hide (setRow_heap _ _ _ (ndC y s) _ _ (unhide r2))
    refine bodyPost_ret (v := .agg (ndC y s)) (results_cell_row rfl _ _ b2 47 _ (0, 0) _ rfl (unhide r2') Tryz.underlying47 rfl (ndC_info y s)) rfl ?_
    exact ⟨⟨y, s, rfl, (((unhide N).f.kept (setRow_grown _ b2 _) (Nat.lt_succ_self b2)).low (by have := unhide hlo; omega))⟩, (unhide N).ds.setRow (unhide hlo).1⟩
  · skip
    have c2 : w4.cell? ⟨b3, 2, none⟩ = some (.bool x.gr) := nd_rng (unhide N).r3 2 _ rfl
    have z1 := frozen_of_row w4 b3 2 _ _ (unhide N).r3
    go_upto_region 19 with fail
    clear c2 z1
    have N1 := hide (unhide N)
    replace N := hide (show NQ w (w4.setCell ⟨b3, 2, none⟩ (.bool (!x.gr))) g B a len cap b2 b3 { x with gr := !x.gr } s from by
      have h := (unhide N1).f
      have q := unhide N1
      exact q.put (set_gr _ _ (!x.gr)) ⟨⟨q.in3.v, q.in3.p, q.in3.d, q.in3.cv, q.in3.cp⟩, h.caps.same, ⟨h.small.nv, h.small.np, h.small.nd, h.small.mv, h.small.mp⟩, h.wid, h.wpar, fun l hl k e => h.far l hl k (by rw [← e]; rcases (by omega : l = 0 ∨ l = 1 ∨ l = 2 ∨ l = 3 ∨ l = 4) with rfl | rfl | rfl | rfl | rfl <;> rfl)⟩ (fun l hl k e => q.ne l hl k (by rw [← e]; rcases (by omega : l = 0 ∨ l = 1 ∨ l = 2 ∨ l = 3 ∨ l = 4) with rfl | rfl | rfl | rfl | rfl <;> rfl)))
    clear N1
    generalize w4.setCell ⟨b3, 2, none⟩ (.bool (!x.gr)) = WS at N ⊢
    obtain ⟨y, hy⟩ : ∃ y : Nd, Hid ({ x with gr := !x.gr } = y) := ⟨_, rfl⟩
    rw [unhide hy] at N
    clear hy
    obtain ⟨C2, r2, z2⟩ := (unhide N).r2
    replace r2 := hide r2
    have hlo := hide (unhide N).lo
    go_wp2_with (first | with_reducible refine load_own rfl _ rfl b3 rfl y s 47 (unhide N).r3 ?_ | with_reducible refine wpList_store_row rfl 47 _ _ rfl b2 (ndC y s) rfl rfl 47 _ (unhide r2) (ndC_info y s) (z2.trans (ndC_size y s).symm) (ndC_one y s) ?_)
    have r2' := hide (setRow_heap _ _ _ (ndC y s) _ _ (unhide r2))
    refine bodyPost_ret (v := .agg (ndC y s)) (results_cell_row rfl _ _ b2 47 _ (0, 0) _ rfl (unhide r2') Tryz.underlying47 rfl (ndC_info y s)) rfl ?_
    exact ⟨⟨y, s, rfl, (((unhide N).f.kept (setRow_grown _ b2 _) (Nat.lt_succ_self b2)).low (by have := unhide hlo; omega))⟩, (unhide N).ds.setRow (unhide hlo).1⟩
  · skip
    go_wp2_with fail
    go_fit (l04AnyMat_any g B a len cap _ hl (unhide N).ds.again)
    rintro e w5 ⟨⟨m0, m1, m2, m3, m4, m5, rfl⟩, d⟩
    replace N := hide ((unhide N).draw d.cur d.gb)
    clear d
    obtain ⟨M, hM⟩ : ∃ A : Array Value, Hid (#[.int .i64 m0, .int .i64 m1, .int .i64 m2, .int .i64 m3, .int .i64 m4, .int .i64 m5] = A) := ⟨_, rfl⟩
    have hms : M.size = 6 := by rw [← unhide hM]; rfl
    have hmo : M.all (·.oneCell') = true := by rw [← unhide hM]; simp [Value.oneCell']
    have hth := hide (thereC (unhide N).r3 3 6 (by rw [ndC_size]; omega))
    have hin : (Tryz.prog.info? 35).map (·.size) = some 6 := by kernel_rfl
    go_upto_region 19 with (refine wpList_store_mid rfl 35 _ _ rfl b3 3 M rfl (by rw [← unhide hM]; rfl) (by rw [hms]; exact unhide hth) (by rw [hms]; exact hin) hmo ?_)
    clear hms hmo hth hin
    have N1 := hide (unhide N)
    replace N := hide (show NQ w (w5.setCells b3 3 M.toList) g B a len cap b2 b3 { x with m0 := m0, m1 := m1, m2 := m2, m3 := m3, m4 := m4, m5 := m5 } s from by
      have h := (unhide N1).f
      have q := unhide N1
      have hin := h.inn.kept (sets_grown2 b3 M.toList w5 3) (fun l hl _ k e e2 => q.ne l hl k e (Option.some.inj e2).symm)
      exact q.puts M.toList (by rw [← unhide hM]; exact set_mat x s m0 m1 m2 m3 m4 m5) ⟨⟨hin.v, hin.p, hin.d, hin.cv, hin.cp⟩, h.caps.same, ⟨h.small.nv, h.small.np, h.small.nd, h.small.mv, h.small.mp⟩, h.wid, h.wpar, fun l hl k e => h.far l hl k (by rw [← e]; rcases (by omega : l = 0 ∨ l = 1 ∨ l = 2 ∨ l = 3 ∨ l = 4) with rfl | rfl | rfl | rfl | rfl <;> rfl)⟩ (fun l hl k e => q.ne l hl k (by rw [← e]; rcases (by omega : l = 0 ∨ l = 1 ∨ l = 2 ∨ l = 3 ∨ l = 4) with rfl | rfl | rfl | rfl | rfl <;> rfl)))
    clear N1 hM
    generalize w5.setCells b3 3 M.toList = WS at N ⊢
    obtain ⟨y, hy⟩ : ∃ y : Nd, Hid ({ x with m0 := m0, m1 := m1, m2 := m2, m3 := m3, m4 := m4, m5 := m5 } = y) := ⟨_, rfl⟩
    rw [unhide hy] at N
    clear hy
    obtain ⟨C2, r2, z2⟩ := (unhide N).r2
    replace r2 := hide r2
    have hlo := hide (unhide N).lo
    go_wp2_with (first | with_reducible refine load_own rfl _ rfl b3 rfl y s 47 (unhide N).r3 ?_ | with_reducible refine wpList_store_row rfl 47 _ _ rfl b2 (ndC y s) rfl rfl 47 _ (unhide r2) (ndC_info y s) (z2.trans (ndC_size y s).symm) (ndC_one y s) ?_)
    have r2' := hide (setRow_heap _ _ _ (ndC y s) _ _ (unhide r2))
    refine bodyPost_ret (v := .agg (ndC y s)) (results_cell_row rfl _ _ b2 47 _ (0, 0) _ rfl (unhide r2') Tryz.underlying47 rfl (ndC_info y s)) rfl ?_
    exact ⟨⟨y, s, rfl, (((unhide N).f.kept (setRow_grown _ b2 _) (Nat.lt_succ_self b2)).low (by have := unhide hlo; omega))⟩, (unhide N).ds.setRow (unhide hlo).1⟩
  · skip
    go_wp2_with fail
    go_fit (l06Any_cap g B a len cap _ hl (unhide N).ds.again)
    rintro e w5 ⟨v1, v2, rfl, ⟨hp, hc⟩, d⟩
    have hbs := heap_lt (unhide N).r3
    replace N := hide ((unhide N).draw d.cur d.gb)
    obtain ⟨a1, n1, k1, a2, n2, k2, vf, pf, rfl, rfl, e1, e2, e3, e4, e5, e6, e7, e8⟩ := AnyPath.lists hp hc
    have e5 := hide (fun q h => Nat.lt_of_lt_of_le hbs (e5 q h))
    have e6 := hide (fun q h => Nat.lt_of_lt_of_le hbs (e6 q h))
    have e7 := hide e7
    have e8 := hide e8
    clear d hp hc hbs
    have q1 := cellC (unhide N).r3 9 (by rw [ndC_size]; omega)
    have q2 := cellC (unhide N).r3 10 (by rw [ndC_size]; omega)
    have z1 := frozen_of_row w5 b3 9 _ _ (unhide N).r3
    have z2 := frozen_of_row w5 b3 10 _ _ (unhide N).r3
    go_upto_region 19 with fail
    clear q1 q2 z1 z2
    have N1 := hide (unhide N)
    replace N := hide (show NQ w ((w5.setCell ⟨b3, 9, none⟩ (.slice a1 n1 k1)).setCell ⟨b3, 10, none⟩ (.slice a2 n2 k2)) g B a len cap b2 b3 { x with nv := n1, vf := vf, np := n2, pf := pf } { s with av := a1, cv := k1, ap := a2, cp := k2 } from by
      have h := (unhide N1).f
      have q := unhide N1
      have gr : w5.grownBy ((w5.setCell ⟨b3, 9, none⟩ (.slice a1 n1 k1)).setCell ⟨b3, 10, none⟩ (.slice a2 n2 k2)) (some b3) := grown_trans (setc_grown w5 b3 9 _) (setc_grown _ b3 10 _)
      have hin := h.inn.kept gr (fun l hl _ k e e2 => q.ne l hl k e (Option.some.inj e2).symm)
      have lo := q.lo
      have f1 : ∀ k, (Value.slice a1 n1 k1).ownBlock = some k → b3 < k := fun k e => by
        cases a1 with
        | none => cases e
        | some p => cases e; exact unhide e5 p rfl
      have f2 : ∀ k, (Value.slice a2 n2 k2).ownBlock = some k → b3 < k := fun k e => by
        cases a2 with
        | none => cases e
        | some p => cases e; exact unhide e6 p rfl
      have far' : ∀ l, l < 5 → ∀ k, (lvl { x with nv := n1, vf := vf, np := n2, pf := pf } { s with av := a1, cv := k1, ap := a2, cp := k2 } l).ownBlock = some k → b2 + 1 ≤ k ∧ k ≠ b3 := fun l hl k e => by
        rcases (by omega : l = 0 ∨ l = 1 ∨ l = 2 ∨ l = 3 ∨ l = 4) with rfl | rfl | rfl | rfl | rfl
        · have := f1 k e; omega
        · have := f2 k e; omega
        · exact ⟨h.far 2 (by decide) k e, q.ne 2 (by decide) k e⟩
        · exact ⟨h.far 3 (by decide) k e, q.ne 3 (by decide) k e⟩
        · exact ⟨h.far 4 (by decide) k e, q.ne 4 (by decide) k e⟩
      refine ⟨(q.ds.put 9 _ (by omega)).put 10 _ (by omega), ?_, ?_, ⟨⟨?_, ?_, hin.d, hin.cv, hin.cp⟩, ⟨e3, e4, h.caps.d, h.caps.cv, h.caps.cp⟩, ⟨by show n1 ≤ _; omega, by show n2 ≤ _; omega, h.small.nd, h.small.mv, h.small.mp⟩, h.wid, h.wpar, fun l hl k e => (far' l hl k e).1⟩, fun l hl k e => (far' l hl k e).2, lo⟩
      · obtain ⟨C, h1, h2⟩ := q.r2
        exact ⟨C, setc_other (by omega) (setc_other (by omega) h1), h2⟩
      · rw [← set_path]; exact setC (setC q.r3)
      · exact fun i hi => intAt_kept (n := n1) (c := k1) (unhide e7 i hi) gr (fun k e e2 => by cases e2; have := f1 _ e; omega)
      · exact fun i hi => ptArg_kept (n := n2) (c := k2) (unhide e8 i hi) gr (fun k e e2 => by cases e2; have := f2 _ e; omega))
    clear N1 e1 e2 e3 e4 e5 e6 e7 e8
    generalize (w5.setCell ⟨b3, 9, none⟩ (.slice a1 n1 k1)).setCell ⟨b3, 10, none⟩ (.slice a2 n2 k2) = WS at N ⊢
    generalize ({ s with av := a1, cv := k1, ap := a2, cp := k2 } : Na) = s' at N
    obtain ⟨y, hy⟩ : ∃ y : Nd, Hid ({ x with nv := n1, vf := vf, np := n2, pf := pf } = y) := ⟨_, rfl⟩
    rw [unhide hy] at N
    clear hy
    obtain ⟨C2, r2, z2⟩ := (unhide N).r2
    replace r2 := hide r2
    have hlo := hide (unhide N).lo
    go_wp2_with (first | with_reducible refine load_own rfl _ rfl b3 rfl y s' 47 (unhide N).r3 ?_ | with_reducible refine wpList_store_row rfl 47 _ _ rfl b2 (ndC y s') rfl rfl 47 _ (unhide r2) (ndC_info y s') (z2.trans (ndC_size y s').symm) (ndC_one y s') ?_)
    have r2' := hide (setRow_heap _ _ _ (ndC y s') _ _ (unhide r2))
    refine bodyPost_ret (v := .agg (ndC y s')) (results_cell_row rfl _ _ b2 47 _ (0, 0) _ rfl (unhide r2') Tryz.underlying47 rfl (ndC_info y s')) rfl ?_
    exact ⟨⟨y, s', rfl, (((unhide N).f.kept (setRow_grown _ b2 _) (Nat.lt_succ_self b2)).low (by have := unhide hlo; omega))⟩, (unhide N).ds.setRow (unhide hlo).1⟩
  · have k0 : ((t : Int) == 0) = false := beq_eq_false_iff_ne.2 (by omega)
    have k1 : ((t : Int) == 1) = false := beq_eq_false_iff_ne.2 (by omega)
    have k2 : ((t : Int) == 2) = false := beq_eq_false_iff_ne.2 (by omega)
    have k3 : ((t : Int) == 3) = false := beq_eq_false_iff_ne.2 (by omega)
    have k4 : ((t : Int) == 4) = false := beq_eq_false_iff_ne.2 (by omega)
    have k5 : ((t : Int) == 5) = false := beq_eq_false_iff_ne.2 (by omega)
    have k6 : ((t : Int) == 6) = false := beq_eq_false_iff_ne.2 (by omega)
    have k7 : ((t : Int) == 7) = false := beq_eq_false_iff_ne.2 (by omega)
    obtain ⟨y, hy⟩ : ∃ y : Nd, Hid (x = y) := ⟨_, rfl⟩
    rw [unhide hy] at N
    clear hy
    obtain ⟨C2, r2, z2⟩ := (unhide N).r2
    replace r2 := hide r2
    have hlo := hide (unhide N).lo
    go_wp2_with (first | with_reducible refine load_own rfl _ rfl b3 rfl y s 47 (unhide N).r3 ?_ | with_reducible refine wpList_store_row rfl 47 _ _ rfl b2 (ndC y s) rfl rfl 47 _ (unhide r2) (ndC_info y s) (z2.trans (ndC_size y s).symm) (ndC_one y s) ?_)
    have r2' := hide (setRow_heap _ _ _ (ndC y s) _ _ (unhide r2))
    refine bodyPost_ret (v := .agg (ndC y s)) (results_cell_row rfl _ _ b2 47 _ (0, 0) _ rfl (unhide r2') Tryz.underlying47 rfl (ndC_info y s)) rfl ?_
    exact ⟨⟨y, s, rfl, (((unhide N).f.kept (setRow_grown _ b2 _) (Nat.lt_succ_self b2)).low (by have := unhide hlo; omega))⟩, (unhide N).ds.setRow (unhide hlo).1⟩
end Go.Proofs.YtdbphpekhmlmdaaGreatDoor

/-
  A scene while it is drawn.
-/
namespace Go.Proofs.YtdbphpekhmlmdaaGreatDoor
open Go.RowKit
set_option linter.unusedVariables false

/-- The cells of n nodes. -/
def ndsL (X : Nat → Nd) (A : Nat → Na) : Nat → List Value
  | 0 => []
  | n + 1 => ndsL X A n ++ (ndC (X n) (A n)).toList
theorem ndsL_len (X : Nat → Nd) (A : Nat → Na) : ∀ n, (ndsL X A n).length = n * 31
  | 0 => rfl
  | n + 1 => by rw [ndsL, List.length_append, ndsL_len X A n, Array.length_toList, ndC_size]; omega
theorem ndsL_get (X : Nat → Nd) (A : Nat → Na) : ∀ {n i j : Nat}, i < n → j < 31 → (ndsL X A n)[i * 31 + j]? = (ndC (X i) (A i))[j]?
  | 0, i, j, hi, _ => absurd hi (by omega)
  | n + 1, i, j, hi, hj => by
    rw [ndsL]
    by_cases e : i = n
    · subst e
      rw [List.getElem?_append_right (by rw [ndsL_len]; omega), ndsL_len, show i * 31 + j - i * 31 = j by omega, Array.getElem?_toList]
    · rw [List.getElem?_append_left (by rw [ndsL_len]; omega)]
      exact ndsL_get X A (by omega) hj
theorem ndsL_congr {X Y : Nat → Nd} {A C : Nat → Na} : ∀ {n : Nat}, (∀ i, i < n → X i = Y i ∧ A i = C i) → ndsL X A n = ndsL Y C n
  | 0, _ => rfl
  | n + 1, h => by rw [ndsL, ndsL, ndsL_congr (fun i hi => h i (by omega)), (h n (by omega)).1, (h n (by omega)).2]
theorem ndsL_one (X : Nat → Nd) (A : Nat → Na) (n : Nat) : ∀ u ∈ ndsL X A n, u.oneCell' = true := by
  induction n with
  | zero => intro u hu; cases hu
  | succ n ih =>
    intro u hu
    rcases List.mem_append.1 hu with hu | hu
    · exact ih u hu
    · have h1 := ndC_one (X n) (A n)
      rw [← Array.all_toList] at h1
      exact List.all_eq_true.1 h1 u hu
theorem own_nodes {w : World} {base n : Nat} {v : Value} {X : Nat → Nd} {A : Nat → Na} (h : w.ownsRow base 47 31 v n (ndsL X A n)) (hN : ∀ i, i < n → NdIn w (X i) (A i)) : ∃ p c, v = .slice p n c ∧ n ≤ c ∧ ∀ i, i < n → NrAt w p i (X i) (A i) := by
  have hc := fun g (e : v.ownBlock = some g) => h.cells e
  rcases h.2 with ⟨h1, h2⟩ | ⟨g, cap, cur, h1, _, _, h4, _⟩
  · subst h2
    exact ⟨none, 0, h1, Nat.le_refl _, fun i hi => absurd hi (by omega)⟩
  · subst h1
    refine ⟨_, _, rfl, h4, fun i hi => ⟨g, 0, rfl, fun j u hj => ?_, hN i hi⟩⟩
    have hj31 : j < 31 := (Array.getElem?_eq_some_iff.1 hj).1
    have := hc g rfl (i * 31 + j) u (by rw [ndsL_get X A hi hj31]; exact hj)
    rw [Addr.add_lit] at this
    rw [show 0 + i * 31 + j = 0 + (i * 31 + j) by omega]
    exact this

/-- A node's lists do not lie in that block. -/
structure FarR (x : Nd) (s : Na) (r : Option Nat) : Prop where
  v : (Value.slice s.av x.nv s.cv).ownBlock = none ∨ (Value.slice s.av x.nv s.cv).ownBlock ≠ r
  p : (Value.slice s.ap x.np s.cp).ownBlock = none ∨ (Value.slice s.ap x.np s.cp).ownBlock ≠ r
  d : (Value.slice s.ad x.nd s.cd).ownBlock = none ∨ (Value.slice s.ad x.nd s.cd).ownBlock ≠ r
  cv : (Value.slice s.bv x.mv s.dv).ownBlock = none ∨ (Value.slice s.bv x.mv s.dv).ownBlock ≠ r
  cp : (Value.slice s.bp x.mp s.dp).ownBlock = none ∨ (Value.slice s.bp x.mp s.dp).ownBlock ≠ r
theorem far_one {w : World} {base e sz n : Nat} {v : Value} {xs : List Value} {r : Option Nat} (h : w.ownsRow base e sz v n xs) (hr : ∀ k, r = some k → k < base ∨ w.heap.size ≤ k) : v.ownBlock = none ∨ v.ownBlock ≠ r := by
  cases hv : v.ownBlock with
  | none => exact .inl rfl
  | some k =>
    refine .inr fun e => ?_
    have h1 := h.lt k hv
    rcases hr k e.symm with h2 | h2 <;> omega
theorem NdW.far {w : World} {base : Nat} {x : Nd} {s : Na} {r : Option Nat} (h : NdW w base x s) (hr : ∀ k, r = some k → k < base ∨ w.heap.size ≤ k) : FarR x s r :=
  let ⟨xs, a1, a2⟩ := h.v; let ⟨ys, b1, b2⟩ := h.p; let ⟨zs, c1, c2⟩ := h.d; let ⟨us, d1, d2⟩ := h.cv; let ⟨vs, e1, e2⟩ := h.cp
  ⟨far_one a1 hr, far_one b1 hr, far_one c1 hr, far_one d1 hr, far_one e1 hr⟩
theorem NdW.kept2 {w u : World} {base : Nat} {x : Nd} {s : Na} {r : Option Nat} (h : NdW w base x s) (hg : w.grownBy u r) (hf : FarR x s r) : NdW u base x s :=
  let ⟨xs, a1, a2⟩ := h.v; let ⟨ys, b1, b2⟩ := h.p; let ⟨zs, c1, c2⟩ := h.d; let ⟨us, d1, d2⟩ := h.cv; let ⟨vs, e1, e2⟩ := h.cp
  ⟨⟨xs, a1.kept hg hf.v, a2⟩, ⟨ys, b1.kept hg hf.p, b2⟩, ⟨zs, c1.kept hg hf.d, c2⟩, ⟨us, d1.kept hg hf.cv, d2⟩, ⟨vs, e1.kept hg hf.cp, e2⟩⟩

/-- A scene of n nodes in the variable b3, while more is drawn. -/
structure SL (w u : World) (g B : Nat) (a : Option Addr) (len cap b2 b3 : Nat) (v : Value) (n : Nat) (X : Nat → Nd) (A : Nat → Na) : Prop where
  ds : DS w u g B a len cap
  lo : w.heap.size ≤ b2 ∧ b2 < b3
  r2 : u.heap[b2]? = some (.cells #[.slice none 0 0] 26 (0, 0))
  r3 : u.heap[b3]? = some (.cells #[v] 26 (0, 0))
  own : u.ownsRow (b3 + 1) 47 31 v n (ndsL X A n)
  lists : ∀ i, i < n → NdW u (b3 + 1) (X i) (A i)
  far : ∀ i, i < n → FarR (X i) (A i) v.ownBlock
theorem SL.step {w u u' : World} {g B : Nat} {a : Option Addr} {len cap b2 b3 n : Nat} {v : Value} {X : Nat → Nd} {A : Nat → Na} (h : SL w u g B a len cap b2 b3 v n X A) (hd : DS w u' g B a len cap) (hg : u.grownBy u' (some g)) : SL w u' g B a len cap b2 b3 v n X A := by
  have hlt := h.ds.lt
  have hlo := h.lo
  refine ⟨hd, h.lo, (hg.block b2 (heap_lt h.r2) (fun e => by cases e; omega)).trans h.r2, (hg.block b3 (heap_lt h.r3) (fun e => by cases e; omega)).trans h.r3, h.own.kept hg ?_, fun i hi => (h.lists i hi).kept hg (by omega), h.far⟩
  cases hv : v.ownBlock with
  | none => exact .inl rfl
  | some k => exact .inr fun e => by cases e; have := (h.own.lt g hv).1; omega
theorem SL.calls {w u u' : World} {g B : Nat} {a : Option Addr} {len cap b2 b3 n : Nat} {v : Value} {X : Nat → Nd} {A : Nat → Na} (h : SL w u g B a len cap b2 b3 v n X A) (hb : Below u.heap.size u u') : SL w u' g B a len cap b2 b3 v n X A :=
  h.step (h.ds.calls hb) (grows_by hb _)
theorem SL.nodes {w u : World} {g B : Nat} {a : Option Addr} {len cap b2 b3 n : Nat} {v : Value} {X : Nat → Nd} {A : Nat → Na} (h : SL w u g B a len cap b2 b3 v n X A) : ∃ p c, v = .slice p n c ∧ n ≤ c ∧ ∀ i, i < n → NrAt u p i (X i) (A i) :=
  own_nodes h.own (fun i hi => (h.lists i hi).inn)
/-- One node more. -/
theorem SL.more {w u u1 u2 u3 : World} {g B : Nat} {a : Option Addr} {len cap b2 b3 n : Nat} {v v' : Value} {X : Nat → Nd} {A : Nat → Na} {x : Nd} {s : Na} (h : SL w u g B a len cap b2 b3 v n X A) (hd : DS u u1 g B a len cap) (hx : NdW u1 u.heap.size x s)
    (hb2 : Below u1.heap.size u1 u2) (ho : u3.ownsRow (b3 + 1) 47 31 v' (n + 1) (ndsL X A n ++ (ndC x s).toList)) (hg : u2.grownBy u3 v.ownBlock) (hl : v'.ownBlock = v.ownBlock ∨ ∀ k, v'.ownBlock = some k → u2.heap.size ≤ k) :
    SL w (u3.setCell ⟨b3, 0, none⟩ v') g B a len cap b2 b3 v' (n + 1) (fun i => if i = n then x else X i) (fun i => if i = n then s else A i) := by
  have h1 : SL w u1 g B a len cap b2 b3 v n X A := h.step (h.ds.next hd.cur hd.gb) hd.gb
  have h2 := h1.calls hb2
  have hlt := h.ds.lt
  have hlo := h.lo
  have hvl : ∀ k, v.ownBlock = some k → b3 + 1 ≤ k ∧ k < u.heap.size := fun k e => h.own.lt k e
  have hs1 : u.heap.size ≤ u1.heap.size := hd.gb.size
  have hu3 : b3 < u.heap.size := heap_lt h.r3
  have hset : u3.grownBy (u3.setCell ⟨b3, 0, none⟩ v') (some b3) := setc_grown u3 b3 0 v'
  have hv' : ∀ k, v'.ownBlock = some k → b3 + 1 ≤ k := fun k e => (ho.lt k e).1
  have e2 : u3.heap[b2]? = some (.cells #[.slice none 0 0] 26 (0, 0)) := (hg.block b2 (heap_lt h2.r2) (fun e => by have := (hvl b2 e.symm).1; omega)).trans h2.r2
  have e3 : u3.heap[b3]? = some (.cells #[v] 26 (0, 0)) := (hg.block b3 (heap_lt h2.r3) (fun e => by have := (hvl b3 e.symm).1; omega)).trans h2.r3
  have hds3 : DS w u3 g B a len cap := by
    refine h2.ds.part (C := w.heap.size) ?_ (Nat.le_refl _)
    exact ⟨hg.os, hg.tape, hg.output, hg.size, fun k hk => hg.block k (Nat.lt_of_lt_of_le hk h2.ds.size) (fun e => by have := (hvl k e.symm).1; omega)⟩
  refine ⟨hds3.put 0 v' (by omega), h.lo, (hset.block b2 (heap_lt e2) (fun e => by cases e; omega)).trans e2, ?_, ?_, fun i hi => ?_, fun i hi => ?_⟩
  · have := setC (v := v') (j := 0) e3
    simpa using this
  · have e : ndsL X A n ++ (ndC x s).toList = ndsL (fun i => if i = n then x else X i) (fun i => if i = n then s else A i) (n + 1) := by
      rw [ndsL, if_pos rfl, if_pos rfl]
      congr 1
      exact ndsL_congr (fun i hi => ⟨by rw [if_neg (by omega)], by rw [if_neg (by omega)]⟩)
    rw [← e]
    refine ho.kept hset ?_
    cases hv : v'.ownBlock with
    | none => exact .inl rfl
    | some k => exact .inr fun e => by cases e; have := hv' b3 hv; omega
  · by_cases e : i = n
    · rw [if_pos e, if_pos e]
      have hx2 := hx.next hb2
      have hx3 := hx2.kept2 hg (hx2.far (fun k hk => .inl (hvl k hk).2))
      exact (hx3.low (by omega)).kept hset (by omega)
    · rw [if_neg e, if_neg e]
      exact ((h2.lists i (by omega)).kept2 hg (h2.far i (by omega))).kept hset (by omega)
  · by_cases e : i = n
    · rw [if_pos e, if_pos e]
      have hx2 := hx.next hb2
      refine hx2.far (fun k hk => ?_)
      rcases hl with hl | hl
      · exact .inl (hvl k (hl ▸ hk)).2
      · exact .inr (hl k hk)
    · rw [if_neg e, if_neg e]
      rcases hl with hl | hl
      · rw [hl]; exact h2.far i (by omega)
      · exact (h2.lists i (by omega)).far (fun k hk => .inr (hl k hk))
end Go.Proofs.YtdbphpekhmlmdaaGreatDoor

/-
  DrawPlaces: twelve numbers in 0 .. 9999.
-/
namespace Go.Proofs.YtdbphpekhmlmdaaGreatDoor
open Go.RowKit

theorem big_no (a : Option Addr) (len cap : Nat) (hl : len ≤ 1048576) (w : World) :
    Calls Tryz.prog 5 #[.slice a len cap] w fun e w' => e = .returned (.bool false) ∧ w' = w := by
  have hd : decide ((1048576 : Int) < (len : Int)) = false := by simp; omega
  go_enter Tryz.func5, Tryz.ntmps5
  go_wp2
  go_ret
  exact ⟨rfl, rfl⟩
theorem big_yes (a : Option Addr) (len cap : Nat) (hl : ¬ len ≤ 1048576) (w : World) :
    Calls Tryz.prog 5 #[.slice a len cap] w fun e w' => e = .returned (.bool true) ∧ w' = w := by
  have hd : decide ((1048576 : Int) < (len : Int)) = true := by simp; omega
  go_enter Tryz.func5, Tryz.ntmps5
  go_wp2
  go_ret
  exact ⟨rfl, rfl⟩

end Go.Proofs.YtdbphpekhmlmdaaGreatDoor
