/-
  PlaceB: texts of one claim, in one.
-/
import Derived.Test.YtdbphpekhmlmdaaGreatDoorFnPlacesM14
import Derived.Test.YtdbphpekhmlmdaaGreatDoorFnPlacesM6
import Derived.Test.YtdbphpekhmlmdaaGreatDoorFnPlacesM16

/-
  The program's PlaceNode. (By placeb.py.)
-/
namespace Go.Proofs.YtdbphpekhmlmdaaGreatDoor
open Go.RowKit
set_option linter.unusedVariables false

/-- The lists of a scene, whatever its row holds. -/
structure LsO (w : World) (base T g n c : Nat) (X : Nat → Nd) (A : Nat → Na) : Prop where
  own : ∀ j, j < n → ∀ l, l < 5 → OwnL w base (X j) (A j) l
  apt : Apt T (.slice (some ⟨g, 0, none⟩) n c) n (fun j l => lvl (X j) (A j) l)
theorem SG.ls {w : World} {base T g n c : Nat} {X : Nat → Nd} {A : Nat → Na} (h : SG w base T (some ⟨g, 0, none⟩) n c X A) : LsO w base T g n c X A := ⟨h.own, h.apt⟩
theorem LsO.next {w u : World} {base T g n c : Nat} {X : Nat → Nd} {A : Nat → Na} (h : LsO w base T g n c X A) (hb : Below w.heap.size w u) : LsO u base T g n c X A := ⟨fun j hj l hl => (h.own j hj l hl).next hb, h.apt⟩
theorem LsO.kept {w u : World} {base T g n c : Nat} {X : Nat → Nd} {A : Nat → Na} (h : LsO w base T g n c X A) (hg : w.grownBy u (some g)) : LsO u base T g n c X A := ⟨fun j hj l hl => (h.own j hj l hl).kept hg (by
    cases hk : (lvl (X j) (A j) l).ownBlock with
    | none => exact .inl rfl
    | some k => exact .inr (fun e => (h.apt.blk j hj l hl k hk).2 e.symm)), h.apt⟩
theorem LsO.setk {u : World} {base T g n c b j : Nat} {v : Value} {cs : Array Value} {fz : Nat × Nat} {X : Nat → Nd} {A : Nat → Na} (h : LsO u base T g n c X A) (hb : u.heap[b]? = some (.cells cs 26 fz)) : LsO (u.setCell ⟨b, j, none⟩ v) base T g n c X A :=
  ⟨fun i hi l hl => let ⟨xs, a1, a2⟩ := h.own i hi l hl; ⟨xs, own_setc_ne a1 (own_ty a1 hb (lty_sc l)), a2⟩, h.apt⟩
/-- The placed scene is one's own. -/
theorem LsO.place {u : World} {base T g n c k q : Nat} {X : Nat → Nd} {A : Nat → Na} {par : Int} (h : LsO u base T g n c X A) (hk : k < n) (hT : T ≤ u.heap.size) (hr : ∃ ys, u.ownsRow base 47 31 (.slice (some ⟨g, 0, none⟩) n c) n ys ∧ NsAt ys (insF (pickF X (kp k n)) q ((X k).withPar par)) (insF (pickF A (kp k n)) q (A k)) n) (hq : q ≤ n - 1) :
    SG u base u.heap.size (some ⟨g, 0, none⟩) n c (pickF (upd X k ((X k).withPar par)) (insQ k n q)) (pickF A (insQ k n q)) := by
  have hL := ins_len (k := k) (n := n) (q := q) hk
  have hl1 := (kp_len (k := k) (n := n)).1 hk
  have eq : ∀ j, j < n → pickF (upd X k ((X k).withPar par)) (insQ k n q) j = insF (pickF X (kp k n)) q ((X k).withPar par) j ∧ pickF A (insQ k n q) j = insF (pickF A (kp k n)) q (A k) j := fun j hj => by
    have ht : ((kp k n).take q).length = q := by rw [List.length_take]; omega
    rw [pickF_at _ _ (by omega), pickF_at A _ (by omega)]
    by_cases h1 : j < q
    · have e : (insQ k n q)[j]'(by omega) = (kp k n)[j]'(by omega) := by
        unfold insQ
        rw [List.getElem_append_left (by omega), List.getElem_take]
      have hne : (kp k n)[j]'(by omega) ≠ k := (kp_mem.1 (List.getElem_mem _)).2
      rw [e, insF_lt h1, insF_lt h1, pickF_at _ _ (by omega), pickF_at A _ (by omega), upd_ne _ _ hne]
      exact ⟨rfl, rfl⟩
    · by_cases h2 : j = q
      · subst h2
        have e : (insQ k n j)[j]'(by omega) = k := by
          unfold insQ
          rw [List.getElem_append_right (by omega)]
          simp [ht]
        rw [e, insF_eq, insF_eq, upd_at]
        exact ⟨rfl, rfl⟩
      · have e : (insQ k n q)[j]'(by omega) = (kp k n)[j - 1]'(by omega) := by
          unfold insQ
          rw [List.getElem_append_right (by omega)]
          simp only [ht]
          rw [List.getElem_cons]
          rw [dif_neg (by omega), List.getElem_drop]
          congr 1
          omega
        have hne : (kp k n)[j - 1]'(by omega) ≠ k := (kp_mem.1 (List.getElem_mem _)).2
        rw [e, insF_gt (by omega), insF_gt (by omega), pickF_at _ _ (by omega), pickF_at A _ (by omega), upd_ne _ _ hne]
        exact ⟨rfl, rfl⟩
  have lv : ∀ t l, lvl (upd X k ((X k).withPar par) t) (A t) l = lvl (X t) (A t) l := fun t l => by
    by_cases e : t = k
    · subst e; rw [upd_at, lvl_par]
    · rw [upd_ne _ _ e]
  have hix : ∀ j, j < n → ∃ t, t < n ∧ pickF (upd X k ((X k).withPar par)) (insQ k n q) j = upd X k ((X k).withPar par) t ∧ pickF A (insQ k n q) j = A t ∧ (insQ k n q)[j]? = some t := fun j hj =>
    ⟨(insQ k n q)[j]'(by omega), (ins_mem hk).1 (List.getElem_mem _), pickF_at _ _ (by omega), pickF_at A _ (by omega), List.getElem?_eq_getElem (by omega)⟩
  refine ⟨?_, fun j hj l hl => ?_, fun i j hi hj l m hl hm b e1 e2 => ?_, fun j hj l hl b e => ?_, fun b e => Nat.lt_of_lt_of_le (h.apt.row b e) hT⟩
  · obtain ⟨ys, r1, r2⟩ := hr
    exact ⟨ys, r1, fun j hj m v hv => r2 j hj m v (by rw [← (eq j hj).1, ← (eq j hj).2]; exact hv)⟩
  · obtain ⟨t, ht, a1, a2, _⟩ := hix j hj
    rw [a1, a2]
    by_cases e : t = k
    · subst e; rw [upd_at]; exact (h.own t ht l hl).withPar par
    · rw [upd_ne _ _ e]; exact h.own t ht l hl
  · obtain ⟨t, ht, a1, a2, a3⟩ := hix i hi
    obtain ⟨t', ht', b1, b2, b3⟩ := hix j hj
    rw [a1, a2, lv] at e1
    rw [b1, b2, lv] at e2
    obtain ⟨ett, el⟩ := h.apt.inj t t' ht ht' l m hl hm b e1 e2
    subst ett
    refine ⟨?_, el⟩
    have ei := (List.getElem?_eq_some_iff.1 a3)
    have ej := (List.getElem?_eq_some_iff.1 b3)
    exact (List.getElem_inj ins_nodup).1 (ei.2.trans ej.2.symm)
  · obtain ⟨t, ht, a1, a2, _⟩ := hix j hj
    rw [a1, a2, lv] at e
    exact ⟨Nat.lt_of_lt_of_le (h.apt.blk t ht l hl b e).1 hT, (h.apt.blk t ht l hl b e).2⟩
theorem place_parts0 {X : Nat → Nd} {n : Nat} {id par beh : Int} (h : placeC X n id par beh = 0) : ∃ k q : Nat, k < n ∧ firstN X id n = (k : Int) ∧ q ≤ n - 1 ∧ firstN (pickF X (kp k n)) beh (n - 1) + 1 = (q : Int) ∧ placeX X n id par beh = pickF (upd X k ((X k).withPar par)) (insQ k n q) := by
  have hY := place_yes h
  unfold placeC at h
  split at h
  · cases h
  · next h1 =>
    split at h
    · cases h
    · next h2 =>
      obtain ⟨hS, k, q, hk, e1, e2, hh, hbh, hne, hZ, hq1, hq2, hL⟩ := place_parts (Classical.not_not.1 h1) h2
      refine ⟨k, q, hk, e1, hq1, hq2, ?_⟩
      rw [hY]
      unfold placeY
      rw [hZ, hL]

set_option maxHeartbeats 16000000 in
set_option maxRecDepth 100000 in
theorem implPlaceNode_any (X : Nat → Nd) (A : Nat → Na) (ao : Option Addr) (n cp : Nat) (hn : n ≤ 1048576) (hc : n ≤ cp) (hao : ao = none → cp = 0) (hs : ∀ i, i < n → (X i).Small) (hk : ∀ i, i < n → Caps (X i) (A i)) (hw : Wf X n) (id par beh : Int) (w1 : (Lit.int .i64 id).wf = true) (w2 : (Lit.int .i64 par).wf = true) (w3 : (Lit.int .i64 beh).wf = true) (w : World) (P : ∀ i, i < n → NrAt w ao i (X i) (A i)) (hg : ErrT w) :
    Calls Tryz.prog 7 #[.agg #[.slice ao n cp], .int .i64 id, .int .i64 par, .int .i64 beh] w fun r w' => ChRes w r w' (placeC X n id par beh) n (placeX X n id par beh) := by
  have EC := hide (fun u (hu : Below w.heap.size w u) => implSceneCopy_any X A ao n cp (by omega) hc hao hs hk u (fun i hi => (P i hi).next hu))
  have EM := hide (fun u (hu : Below w.heap.size w u) => implMayPlace_any X A ao n cp (by omega) hs hw id par beh w1 w2 w3 u (fun i hi => (P i hi).next hu))
  have EK := hide (implCodeOf_any (placeC X n id par beh))
  replace P := hide P
  replace hg := hide hg
  have l0 := hide (show 0 < w.heap.size by
    have h := unhide hg
    unfold ErrT at h
    rcases Nat.eq_zero_or_pos w.heap.size with h0 | h'
    · simp [World.cell?, h0] at h
    · exact h')
  clear hs hk hw
  have hM0 := hide (show placeC X n id par beh ≠ 0 → placeX X n id par beh = X from fun h => if_neg h)
  have hM1 := hide (show placeC X n id par beh = 0 → ∃ k q : Nat, k < n ∧ firstN X id n = (k : Int) ∧ q ≤ n - 1 ∧ firstN (pickF X (kp k n)) beh (n - 1) + 1 = (q : Int) ∧ placeX X n id par beh = pickF (upd X k ((X k).withPar par)) (insQ k n q) from fun h => place_parts0 h)
  generalize placeX X n id par beh = Y at hM0 hM1 ⊢
  generalize placeC X n id par beh = cc at hM0 hM1 EM EK ⊢
  go_enter Tryz.func7, Tryz.ntmps7
  go_upto_region 1 with fail
  have R1 := hide (al2_0 w (.cells #[.slice ao n cp] 26) (.cells #[.slice none 0 0] 26))
  have R4 := hide (al2_1 w (.cells #[.slice ao n cp] 26) (.cells #[.slice none 0 0] 26))
  have HB := hide (al2_below w (.cells #[.slice ao n cp] 26) (.cells #[.slice none 0 0] 26))
  obtain ⟨b4, hb4⟩ : ∃ b, Hid (b = w.heap.size + 1) := ⟨_, rfl⟩
  obtain ⟨b1, hb1⟩ : ∃ b, Hid (b = w.heap.size) := ⟨_, rfl⟩
  rw [← unhide hb4] at R4
  rw [← unhide hb1] at R1
  rw [← unhide hb4, ← unhide hb1]
  have lb := hide (show w.heap.size ≤ b1 ∧ b1 < b4 by rw [unhide hb4, unhide hb1]; omega)
  generalize (w.alloc (.cells #[.slice ao n cp] 26)).alloc (.cells #[.slice none 0 0] 26) = W at R1 R4 HB ⊢
  clear hb1 hb4
  -- the copy
  have c0 := row1 (unhide R1)
  obtain ⟨B0, hB0⟩ : ∃ B, Hid (B = W.heap.size) := ⟨_, rfl⟩
  have l4 := hide (show b4 < B0 by rw [unhide hB0]; exact heap_lt (unhide R4))
  go_wp2_with fail
  go_fit (unhide EC _ (unhide HB))
  rintro r u1 ⟨p, c, A', rfl, SGk, hb⟩
  have SGk := hide (show SG u1 B0 u1.heap.size p n c X A' by rw [unhide hB0]; exact SGk)
  replace R1 := hide (row_next hb (unhide R1))
  replace R4 := hide (row_next hb (unhide R4))
  replace HB := hide (below_two (unhide HB) hb)
  have lB := hide (show B0 ≤ u1.heap.size by rw [unhide hB0]; exact hb.size)
  clear hb c0
  go_upto_region 2 with fail
  have R6 := hide (new_row u1 (.cells #[.slice p n c] 26))
  have hb := al1_below u1 (.cells #[.slice p n c] 26)
  replace R1 := hide (row_next hb (unhide R1))
  skip
  replace R4 := hide (row_next hb (unhide R4))
  replace HB := hide (below_two (unhide HB) hb)
  replace SGk := hide ((unhide SGk).next hb)
  have lT := hide (show u1.heap.size ≤ (u1.alloc (.cells #[.slice p n c] 26)).heap.size from hb.size)
  clear hb
  generalize u1.alloc (.cells #[.slice p n c] 26) = U at R1  R4 R6 HB SGk lT ⊢
  generalize u1.heap.size = b6 at R6 SGk lB lT ⊢
  have lR := hide (show w.heap.size ≤ b1 ∧ b1 < b4 ∧ b4 < B0 ∧ B0 ≤ b6 by have := unhide lb; have := unhide l4; have := unhide lB; omega)
  have lB0 := hide (show w.heap.size ≤ B0 by have := unhide lR; omega)
  have c0 := row1 (unhide R1)
  have F := hide (unhide EM _ (unhide HB))
  go_wp2_with fail
  go_fit (unhide F)
  rintro r u2 ⟨rfl, hb⟩
  replace R1 := hide (row_next hb (unhide R1))
  skip
  replace R4 := hide (row_next hb (unhide R4))
  replace R6 := hide (row_next hb (unhide R6))
  replace HB := hide (below_two (unhide HB) hb)
  replace SGk := hide ((unhide SGk).next hb)
  replace lT := hide (Nat.le_trans (unhide lT) hb.size)
  have ET := hide ((unhide hg).next (unhide HB))
  clear hb c0 F EM EC
  by_cases hcc : cc = 0
  rotate_left
  · skip
    rw [errV_is hcc]
    rw [errV_is hcc] at EK
    have SGf := hide (show SG u2 B0 u2.heap.size p n c X A' from (unhide SGk).high (unhide lT))
    clear SGk
    go_upto_region 9 with fail
    generalize u2 = WF at R1 R4 R6 HB SGf ET ⊢
    refine wp_region_held_drew (S := (fun u => u.cell? ⟨b6, 0, none⟩ = some (.slice p n c))) (by kernel_rfl) ?_ (fun hHeld => ?_)
    · exact row1 (unhide R6)
    have hdr := hide (show Below WF.heap.size WF WF.drew from (Below.refl _ _).drew)
    replace R1 := hide (row_next (unhide hdr) (unhide R1))
    replace R4 := hide (row_next (unhide hdr) (unhide R4))
    replace R6 := hide (row_next (unhide hdr) (unhide R6))
    replace HB := hide (below_two (unhide HB) (unhide hdr))
    replace SGf := hide (show SG WF.drew B0 WF.drew.heap.size p n c X A' from (unhide SGf).next (unhide hdr))
    replace ET := hide ((unhide ET).next (unhide hdr))
    clear hdr
    generalize WF.drew = VF at R1 R4 R6 HB SGf ET hHeld ⊢
    refine wpAnyH_take (i := 0) (oi := { dst := some 50, op := Op.load 26 (Operand.tmp 10), type := 26, pos := "l16_change.go:56", after := #[], guard := none }) (v := ?_) rfl (by kernel_rfl) (by kernel_rfl) (by kernel_rfl) (fun _ _ _ h => h) (Or.inl ⟨by rfl, ?_⟩) (by assumption) ?_
    rotate_left
    · intro w hSw; (try dsimp only at hSw); go_simp <;> with_reducible rfl
    try simp only [Act.put, List.setIfInBounds_toArray, List.set_cons_zero, List.set_cons_succ]
    refine wpAnyH_take (i := 1) (oi := { dst := some 51, op := Op.move (Operand.tmp 11), type := 61, pos := "l16_change.go:56", after := #[], guard := none }) (v := ?_) rfl (by kernel_rfl) (by kernel_rfl) (by kernel_rfl) (fun _ _ _ h => h) (Or.inl ⟨by rfl, ?_⟩) (by assumption) ?_
    rotate_left
    · intro w hSw; (try dsimp only at hSw); go_simp <;> with_reducible rfl
    try simp only [Act.put, List.setIfInBounds_toArray, List.set_cons_zero, List.set_cons_succ]
    refine wpAnyH_ready (rs := [2]) (by kernel_rfl) (by simp) ?_
    refine AllReadyH.cons (o := { dst := some 52, op := Op.call { callee := Callee.value (Operand.func 26), args := #[Operand.tmp 51], argTypes := #[61] }, type := 3, pos := "l16_change.go:56", after := #[{ on := 1, ground := Ground.data }], guard := none }) rfl (fun K hK => ?_) AllReadyH.nil
    go_simp
    (go_at_call 26; go_fit (unhide EK _ (unhide ET)); rintro r Y1 ⟨rfl, hb⟩)
    replace R1 := hide (row_next hb (unhide R1))
    replace R4 := hide (row_next hb (unhide R4))
    replace R6 := hide (row_next hb (unhide R6))
    replace HB := hide (below_two (unhide HB) hb)
    replace SGf := hide (((unhide SGf).next hb).high hb.size)
    replace ET := hide ((unhide ET).next hb)
    refine hK.out _ _ ?_ (fun hHeld => ?_)
    · exact row1 (unhide R6)
    clear hK K hb
    try simp only [Act.put, List.setIfInBounds_toArray, List.set_cons_zero, List.set_cons_succ]
    refine wpAnyH_ready (rs := [3]) (by kernel_rfl) (by simp) ?_
    refine AllReadyH.cons (o := { dst := none, op := Op.store 26 (Operand.tmp 8) (Operand.tmp 50), type := 0, pos := "l16_change.go:56", after := #[{ on := 0, ground := Ground.data }, { on := 2, ground := Ground.chain }, { on := 0, ground := Ground.phase }, { on := 1, ground := Ground.textOnly Departure.lateStores }, { on := 2, ground := Ground.textOnly Departure.lateStoresUnsure }], guard := none }) rfl (fun K hK => ?_) AllReadyH.nil
    have cb := row1 (unhide R4)
    have fb := frozen_of_row Y1 b4 0 _ _ (unhide R4)
    go_simp
    have dd := hide (show (Y1.setCell ⟨b4, 0, none⟩ (.slice p n c)).cell? ⟨b4, 0, none⟩ = some (.slice p n c) from World.cell?_setCell_same _ _ _ cb)
    replace SGf := hide (show SG (Y1.setCell ⟨b4, 0, none⟩ (.slice p n c)) B0 (Y1.setCell ⟨b4, 0, none⟩ (.slice p n c)).heap.size p n c X A' by have h := (unhide SGf).setk (j := 0) (v := .slice p n c) (unhide R4); simpa [World.setCell] using h)
    replace R6 := hide (setc_other (b := b4) (j := 0) (v := .slice p n c) (by have := unhide lR; omega) (unhide R6))
    replace HB := hide ((unhide HB).setCell (p := ⟨b4, 0, none⟩) (by have := unhide lR; dsimp only; omega) (.slice p n c))
    replace ET := hide ((unhide ET).low (by have := unhide lR; have := unhide l0; omega) ((Below.refl b4 Y1).setCell (p := ⟨b4, 0, none⟩) (Nat.le_refl _) (.slice p n c)))
    refine hK.out _ _ ?_ (fun hHeld => ?_)
    · exact row1 (unhide R6)
    clear hK K cb fb
    try simp only [Act.put, List.setIfInBounds_toArray, List.set_cons_zero, List.set_cons_succ]
    refine wpAnyH_take (i := 4) (oi := { dst := some 9, op := Op.assign (Operand.tmp 52), type := 3, pos := "l16_change.go:56", after := #[{ on := 2, ground := Ground.data }, { on := 3, ground := Ground.chain }, { on := 0, ground := Ground.phase }, { on := 1, ground := Ground.phase }, { on := 2, ground := Ground.phase }, { on := 3, ground := Ground.phase }], guard := none }) (v := ?_) rfl (by kernel_rfl) (by kernel_rfl) (by kernel_rfl) (fun _ _ _ h => h) (Or.inl ⟨by rfl, ?_⟩) (by assumption) ?_
    rotate_left
    · intro w hSw; (try dsimp only at hSw); go_simp <;> with_reducible rfl
    try simp only [Act.put, List.setIfInBounds_toArray, List.set_cons_zero, List.set_cons_succ]
    refine wpAnyH_done (by kernel_rfl) ?_ _
    have d0 := unhide dd
    go_wp2_with fail
    exact bodyPost_ret (v := .tuple #[.agg #[.slice p n c], .int .i64 cc]) (by simp [results, Tryz.results7, go_sem, d0]) rfl (by rw [unhide hM0 hcc]; exact ⟨p, c, A', rfl, (unhide SGf).low (unhide lB0), unhide HB⟩)
  · subst hcc
    rw [errV_nil]
    rw [errV_nil] at EK
    obtain ⟨k, q, hk, hf, hq, hZ, hY⟩ := unhide hM1 (by trivial)
    replace hY := hide hY
    obtain ⟨ys, y1, _⟩ := (unhide SGk).row
    obtain ⟨g, c', e, hg0, hg1⟩ := own_at y1 (by omega : 0 < n)
    cases e
    replace hg0 := hide hg0
    have hnc := (unhide SGk).cap.1
    have lg6 := hide (show g < b6 from (unhide SGk).apt.row g rfl)
    clear y1 ET hg1 hM1 hM0
    have EA := hide (implNodeAt_any X A' (some ⟨g, 0, none⟩) n c (by omega) id u2 (unhide SGk).nodes)
    rw [hf] at EA
    have c6 := row1 (unhide R6)
    go_wp2_with fail
    go_fit (unhide EA)
    rintro r u3 ⟨rfl, hb⟩
    replace R1 := hide (row_next hb (unhide R1))
    replace R4 := hide (row_next hb (unhide R4))
    replace R6 := hide (row_next hb (unhide R6))
    replace HB := hide (below_two (unhide HB) hb)
    replace SGk := hide ((unhide SGk).next hb)
    replace lT := hide (Nat.le_trans (unhide lT) hb.size)
    clear hb c6 EA
    have c6 := row1 (unhide R6)
    have hkn : (k : Int) < (n : Int) := by omega
    have hrg : Hid (u3.rangeAt g (k * 31) (ndC (X k) (A' k)).toList) := by
      obtain ⟨b', o', e, h⟩ := ((unhide SGk).nodes k hk).range
      cases e
      unfold Hid
      rwa [Nat.zero_add] at h
    go_upto_region 6 with (first | refine load_node rfl _ rfl g (k * 31) rfl (X k) (A' k) (unhide hrg) ?_ | with_reducible refine store_new rfl _ _ rfl _ (X k) (A' k) rfl rfl rfl ?_)
    have R13 := hide (new_row u3 (.cells (ndC (X k) (A' k)) 47))
    have ba := hide (al1_below u3 (.cells (ndC (X k) (A' k)) 47))
    have l13 := hide (show b6 ≤ u3.heap.size from unhide lT)
    have l613 := hide (show b6 < u3.heap.size from heap_lt (unhide R6))
    replace R1 := hide (row_next (unhide ba) (unhide R1))
    replace R4 := hide (row_next (unhide ba) (unhide R4))
    replace R6 := hide (row_next (unhide ba) (unhide R6))
    replace HB := hide (below_two (unhide HB) (unhide ba))
    replace SGk := hide ((unhide SGk).next (unhide ba))
    replace lT := hide (Nat.le_trans (unhide lT) (unhide ba).size)
    clear ba c6 hrg
    generalize u3.alloc (.cells (ndC (X k) (A' k)) 47) = U4 at R1 R4 R6 R13 HB SGk lT ⊢
    generalize u3.heap.size = b13 at R13 l13 l613 ⊢
    obtain ⟨d0, d1, d2⟩ := headsC (unhide R13)
    have f1 := frozen_of_row U4 b13 1 _ _ (unhide R13)
    go_upto_region 7 with fail
    clear d0 d1 d2 f1
    replace R13 := hide (setC (j := 1) (v := .int .i64 par) (unhide R13))
    rw [ndC_par] at R13
    replace l13 := hide (show b6 < b13 ∧ w.heap.size ≤ b13 by have := unhide l613; have := unhide lR; omega)
    replace R1 := hide (setc_other (b := b13) (j := 1) (v := .int .i64 par) (by have := unhide l13; have := unhide lR; omega) (unhide R1))
    replace R4 := hide (setc_other (b := b13) (j := 1) (v := .int .i64 par) (by have := unhide l13; have := unhide lR; omega) (unhide R4))
    replace R6 := hide (setc_other (b := b13) (j := 1) (v := .int .i64 par) (by have := unhide l13; omega) (unhide R6))
    replace HB := hide ((unhide HB).setCell (p := ⟨b13, 1, none⟩) (unhide l13).2 (.int .i64 par))
    replace SGk := hide (show SG (U4.setCell ⟨b13, 1, none⟩ (.int .i64 par)) B0 b6 (some ⟨g, 0, none⟩) n c X A' from sg_setn (unhide SGk) (Nat.le_of_lt (unhide l13).1))
    replace lT := hide (show b6 ≤ (U4.setCell ⟨b13, 1, none⟩ (.int .i64 par)).heap.size by have := unhide lT; simpa [World.setCell] using this)
    clear l613
    generalize U4.setCell ⟨b13, 1, none⟩ (.int .i64 par) = U5 at R1 R4 R6 R13 HB SGk lT ⊢
    obtain ⟨xp, hxp⟩ : ∃ z, Hid ((X k).withPar par = z) := ⟨_, rfl⟩
    rw [unhide hxp] at R13
    have LS := hide (unhide SGk).ls
    have hg6 := hide (show b6 ≠ g by obtain ⟨ys, y1, _⟩ := (unhide SGk).row; exact fun e => own_ty y1 (unhide R6) (by decide) g rfl e.symm)
    have hg4 := hide (show b4 ≠ g by have := unhide lR; have := unhide hg0; omega)
    have hg1 := hide (show b1 ≠ g by have := unhide lR; have := unhide hg0; omega)
    have hg13 := hide (show b13 ≠ g by have := unhide l13; have := unhide lg6; omega)
    have F := hide (implDelete_any X A' g n c B0 b6 k (by omega) hk U5 (unhide SGk))
    have hkw : IntKind.i64.wrap ((k : Int) + 1) = (k : Int) + 1 := IntWalk.i64_in _ (by omega)
    have c6 := row1 (unhide R6)
    go_wp2_with fail
    go_fit (unhide F)
    rintro r u7 ⟨rfl, SGd, gr⟩
    replace R1 := hide ((gr.block b1 (heap_lt (unhide R1)) (fun e => unhide hg1 (Option.some.inj e))).trans (unhide R1))
    replace R4 := hide ((gr.block b4 (heap_lt (unhide R4)) (fun e => unhide hg4 (Option.some.inj e))).trans (unhide R4))
    replace R6 := hide ((gr.block b6 (heap_lt (unhide R6)) (fun e => unhide hg6 (Option.some.inj e))).trans (unhide R6))
    replace R13 := hide ((gr.block b13 (heap_lt (unhide R13)) (fun e => unhide hg13 (Option.some.inj e))).trans (unhide R13))
    replace HB := hide ((unhide HB).grown gr (unhide HB).size (fun k hk => by cases hk; have := unhide lR; have := unhide hg0; omega))
    replace LS := hide ((unhide LS).kept gr)
    replace lT := hide (Nat.le_trans (unhide lT) gr.size)
    replace SGd := hide SGd
    clear c6 F gr SGk hkw
    have hn1n : n - 1 + 1 = n := by omega
    have hq' := hide hq
    obtain ⟨n1, hn1'⟩ : ∃ m, Hid (n - 1 = m) := ⟨_, rfl⟩
    rw [unhide hn1'] at SGd hn1n hZ ⊢
    have hqn : q ≤ n1 := by have := unhide hq'; have := unhide hn1'; omega
    have hn1 : n1 ≤ 1048576 := by omega
    replace hnc : n1 + 1 ≤ c := by omega
    have c6 := row1 (unhide R6)
    have f6 := frozen_of_row _ b6 0 _ _ (unhide R6)
    go_upto_region 8 with fail
    clear c6 f6
    replace LS := hide ((unhide LS).setk (j := 0) (v := .slice (some ⟨g, 0, none⟩) n1 c) (unhide R6))
    replace SGd := hide ((unhide SGd).setk (j := 0) (v := .slice (some ⟨g, 0, none⟩) n1 c) (unhide R6))
    replace R1 := hide (setc_other (b := b6) (j := 0) (v := .slice (some ⟨g, 0, none⟩) n1 c) (by have := unhide lR; omega) (unhide R1))
    replace R4 := hide (setc_other (b := b6) (j := 0) (v := .slice (some ⟨g, 0, none⟩) n1 c) (by have := unhide lR; omega) (unhide R4))
    replace R13 := hide (setc_other (b := b6) (j := 0) (v := .slice (some ⟨g, 0, none⟩) n1 c) (by have := unhide l13; omega) (unhide R13))
    replace R6 := hide (show (u7.setCell ⟨b6, 0, none⟩ (.slice (some ⟨g, 0, none⟩) n1 c)).heap[b6]? = some (.cells #[.slice (some ⟨g, 0, none⟩) n1 c] 26 (0, 0)) by have := setC (v := .slice (some ⟨g, 0, none⟩) n1 c) (j := 0) (unhide R6); simpa using this)
    replace HB := hide ((unhide HB).setCell (p := ⟨b6, 0, none⟩) (by have := unhide lR; dsimp only; omega) (.slice (some ⟨g, 0, none⟩) n1 c))
    replace lT := hide (show b6 ≤ (u7.setCell ⟨b6, 0, none⟩ (.slice (some ⟨g, 0, none⟩) n1 c)).heap.size by have := unhide lT; simpa [World.setCell] using this)
    generalize u7.setCell ⟨b6, 0, none⟩ (.slice (some ⟨g, 0, none⟩) n1 c) = u8 at R1 R4 R6 R13 HB LS SGd lT ⊢
    have hZq := hide (show firstN (pickF X (kp k n)) beh n1 = (q : Int) - 1 by omega)
    have hwq : IntKind.i64.wrap (q : Int) = (q : Int) := IntWalk.i64_in _ (by omega)
    clear hZ hf
    go_cut [48] (fun v u => ∃ W : World, W = u ∧ Hid (u.heap[b1]? = some (.cells #[.slice ao n cp] 26 (0, 0))) ∧ Hid (u.heap[b4]? = some (.cells #[.slice none 0 0] 26 (0, 0))) ∧ Hid (u.heap[b6]? = some (.cells #[.slice (some ⟨g, 0, none⟩) n c] 26 (0, 0))) ∧ Hid (Below w.heap.size w u) ∧ Hid (SG u B0 u.heap.size (some ⟨g, 0, none⟩) n c (pickF (upd X k xp) (insQ k n q)) (pickF A' (insQ k n q))))
    case first =>
      refine wp_region_held_drew (S := (fun u => u.heap[b13]? = some (.cells (ndC xp (A' k)) 47 (0, 0)))) (by kernel_rfl) ?_ (fun hHeld => ?_)
      · exact unhide R13
      have bd := hide (show Below u8.heap.size u8 u8.drew from (Below.refl _ _).drew)
      replace R1 := hide (row_next (unhide bd) (unhide R1))
      replace R4 := hide (row_next (unhide bd) (unhide R4))
      replace R6 := hide (row_next (unhide bd) (unhide R6))
      replace R13 := hide (row_next (unhide bd) (unhide R13))
      replace HB := hide (below_two (unhide HB) (unhide bd))
      replace LS := hide ((unhide LS).next (unhide bd))
      replace SGd := hide ((unhide SGd).next (unhide bd))
      replace lT := hide (show b6 ≤ u8.drew.heap.size from unhide lT)
      clear bd
      generalize u8.drew = I0 at R1 R4 R6 R13 HB LS SGd lT hHeld ⊢
      refine wpAnyH_take (i := 0) (oi := { dst := some 40, op := Op.fieldAddr 26 (Operand.tmp 10) 0, type := 0, pos := "l16_change.go:54", after := #[], guard := none }) (v := ?_) rfl (by kernel_rfl) (by kernel_rfl) (by kernel_rfl) (fun _ _ _ h => h) (Or.inl ⟨by rfl, ?_⟩) (by assumption) ?_
      rotate_left
      · intro w hSw; (try dsimp only at hSw); go_simp <;> with_reducible rfl
      try simp only [Act.put, List.setIfInBounds_toArray, List.set_cons_zero, List.set_cons_succ]
      refine wpAnyH_take (i := 3) (oi := { dst := some 43, op := Op.move (Operand.tmp 3), type := 3, pos := "l16_change.go:54", after := #[], guard := none }) (v := ?_) rfl (by kernel_rfl) (by kernel_rfl) (by kernel_rfl) (fun _ _ _ h => h) (Or.inl ⟨by rfl, ?_⟩) (by assumption) ?_
      rotate_left
      · intro w hSw; (try dsimp only at hSw); go_simp <;> with_reducible rfl
      try simp only [Act.put, List.setIfInBounds_toArray, List.set_cons_zero, List.set_cons_succ]
      refine wpAnyH_take (i := 6) (oi := { dst := some 46, op := Op.load 47 (Operand.tmp 13), type := 47, pos := "l16_change.go:54", after := #[], guard := none }) (v := .agg (ndC xp (A' k))) rfl (by kernel_rfl) (by kernel_rfl) (by kernel_rfl) (fun _ _ _ h => h) (yields_node rfl _ rfl b13 0 rfl xp (A' k) (fun u hu => rowRng hu)) (by assumption) ?_
      try simp only [Act.put, List.setIfInBounds_toArray, List.set_cons_zero, List.set_cons_succ]
      refine wpAnyH_ready (rs := [1, 2, 7]) (by kernel_rfl) (by simp) ?_
      refine AllReadyH.cons (o := { dst := some 41, op := Op.load 24 (Operand.tmp 40), type := 24, pos := "l16_change.go:54", after := #[{ on := 0, ground := Ground.data }], guard := none }) rfl (fun K hK => ?_) ?_
      · have cb := row1 (unhide R6)
        go_simp
        refine hK.out _ _ ?_ (fun hHeld => ?_)
        · exact unhide R13
        clear hK K
        try simp only [Act.put, List.setIfInBounds_toArray, List.set_cons_zero, List.set_cons_succ]
        clear cb
        refine wpAnyH_ready (rs := [2, 7]) (by kernel_rfl) (by simp) ?_
        refine AllReadyH.cons (o := { dst := some 42, op := Op.load 26 (Operand.tmp 10), type := 26, pos := "l16_change.go:54", after := #[], guard := none }) rfl (fun K hK => ?_) ?_
        · have cb := row1 (unhide R6)
          go_simp
          refine hK.out _ _ ?_ (fun hHeld => ?_)
          · exact unhide R13
          clear hK K
          try simp only [Act.put, List.setIfInBounds_toArray, List.set_cons_zero, List.set_cons_succ]
          clear cb
          refine wpAnyH_ready (rs := [4, 7]) (by kernel_rfl) (by simp) ?_
          refine AllReadyH.cons (o := { dst := some 44, op := Op.call { callee := Callee.value (Operand.func 10), args := #[Operand.tmp 42, Operand.tmp 43], argTypes := #[26, 3] }, type := 3, pos := "l16_change.go:54", after := #[{ on := 2, ground := Ground.data }, { on := 3, ground := Ground.data }], guard := none }) rfl (fun K hK => ?_) ?_
          · go_simp
            (go_at_call 10; go_fit (implNodeAt_any (pickF X (kp k n)) (pickF A' (kp k n)) (some ⟨g, 0, none⟩) n1 c hn1 beh _ (unhide SGd).nodes); rintro r I1 ⟨rfl, hb⟩)
            rw [unhide hZq]
            replace R1 := hide (row_next hb (unhide R1))
            replace R4 := hide (row_next hb (unhide R4))
            replace R6 := hide (row_next hb (unhide R6))
            replace R13 := hide (row_next hb (unhide R13))
            replace HB := hide (below_two (unhide HB) hb)
            replace LS := hide ((unhide LS).next hb)
            replace SGd := hide ((unhide SGd).next hb)
            replace lT := hide (Nat.le_trans (unhide lT) (hb).size)
            clear hb
            refine hK.out _ _ ?_ (fun hHeld => ?_)
            · exact unhide R13
            clear hK K
            try simp only [Act.put, List.setIfInBounds_toArray, List.set_cons_zero, List.set_cons_succ]
            refine wpAnyH_take (i := 5) (oi := { dst := some 45, op := Op.binOp BinOp.add 3 (Operand.tmp 44) (Operand.const (Value.int IntKind.i64 1)) 3, type := 3, pos := "l16_change.go:54", after := #[{ on := 4, ground := Ground.data }], guard := none }) (v := ?_) rfl (by kernel_rfl) (by kernel_rfl) (by kernel_rfl) (fun _ _ _ h => h) (Or.inl ⟨by rfl, ?_⟩) (by assumption) ?_
            rotate_left
            · intro w hSw; (try dsimp only at hSw); go_simp <;> with_reducible rfl
            try simp only [Act.put, List.setIfInBounds_toArray, List.set_cons_zero, List.set_cons_succ]
            refine wpAnyH_ready (rs := [7]) (by kernel_rfl) (by simp) ?_
            refine AllReadyH.cons (o := { dst := some 47, op := Op.buildSlice 24 1 #[(0, Operand.tmp 46)], type := 24, pos := "l16_change.go:54", after := #[{ on := 6, ground := Ground.data }], guard := none }) rfl (fun K hK => ?_) AllReadyH.nil
            refine step_build_node rfl _ rfl xp (A' k) rfl ?_
            have RZ := hide (new_row I1 (.cells (ndC xp (A' k)) 47))
            have lz := hide (show b6 ≤ I1.heap.size from unhide lT)
            have ba := hide (al1_below I1 (.cells (ndC xp (A' k)) 47))
            replace R1 := hide (row_next (unhide ba) (unhide R1))
            replace R4 := hide (row_next (unhide ba) (unhide R4))
            replace R6 := hide (row_next (unhide ba) (unhide R6))
            replace R13 := hide (row_next (unhide ba) (unhide R13))
            replace HB := hide (below_two (unhide HB) (unhide ba))
            replace LS := hide ((unhide LS).next (unhide ba))
            replace SGd := hide ((unhide SGd).next (unhide ba))
            replace lT := hide (Nat.le_trans (unhide lT) ((unhide ba)).size)
            clear ba
            generalize I1.alloc (.cells (ndC xp (A' k)) 47) = I2 at R1 R4 R6 R13 RZ HB LS SGd lT ⊢
            generalize I1.heap.size = z at RZ lz ⊢
            refine hK.out _ _ ?_ (fun hHeld => ?_)
            · exact unhide R13
            clear hK K
            try simp only [Act.put, List.setIfInBounds_toArray, List.set_cons_zero, List.set_cons_succ]
            refine wpAnyH_ready (rs := [8]) (by kernel_rfl) (by simp) ?_
            refine AllReadyH.cons (o := { dst := some 48, op := Op.call { callee := Callee.value (Operand.func 25), args := #[Operand.tmp 41, Operand.tmp 45, Operand.tmp 47], argTypes := #[24, 3, 24] }, type := 24, pos := "l16_change.go:54", after := #[{ on := 1, ground := Ground.data }, { on := 5, ground := Ground.data }, { on := 7, ground := Ground.data }, { on := 4, ground := Ground.chain }], guard := none }) rfl (fun K hK => ?_) AllReadyH.nil
            go_simp
            (go_at_call 25; go_fit (implInsert_any (pickF X (kp k n)) (pickF A' (kp k n)) g n1 c B0 b6 q hn1 hqn hnc xp (A' k) z _ (unhide SGd) (unhide RZ) (by have := unhide lz; have := unhide lg6; omega)); rintro r I3 ⟨rfl, hr, gr⟩)
            rw [hn1n] at hr ⊢
            replace R1 := hide ((gr.block b1 (heap_lt (unhide R1)) (fun e => unhide hg1 (Option.some.inj e))).trans (unhide R1))
            replace R4 := hide ((gr.block b4 (heap_lt (unhide R4)) (fun e => unhide hg4 (Option.some.inj e))).trans (unhide R4))
            replace R6 := hide ((gr.block b6 (heap_lt (unhide R6)) (fun e => unhide hg6 (Option.some.inj e))).trans (unhide R6))
            replace R13 := hide ((gr.block b13 (heap_lt (unhide R13)) (fun e => unhide hg13 (Option.some.inj e))).trans (unhide R13))
            replace HB := hide ((unhide HB).grown gr (unhide HB).size (fun k hk => by cases hk; have := unhide lR; have := unhide hg0; omega))
            replace LS := hide ((unhide LS).kept gr)
            replace lT := hide (Nat.le_trans (unhide lT) gr.size)
            replace hr := hide hr
            clear gr SGd RZ
            refine hK.out _ _ ?_ (fun hHeld => ?_)
            · exact unhide R13
            clear hK K
            try simp only [Act.put, List.setIfInBounds_toArray, List.set_cons_zero, List.set_cons_succ]
            refine wpAnyH_take (i := 9) (oi := { dst := some 49, op := Op.fieldAddr 26 (Operand.tmp 10) 0, type := 0, pos := "l16_change.go:54", after := #[{ on := 0, ground := Ground.phase }, { on := 1, ground := Ground.phase }, { on := 2, ground := Ground.phase }, { on := 3, ground := Ground.phase }, { on := 4, ground := Ground.phase }, { on := 5, ground := Ground.phase }, { on := 6, ground := Ground.phase }, { on := 7, ground := Ground.phase }, { on := 8, ground := Ground.phase }], guard := none }) (v := ?_) rfl (by kernel_rfl) (by kernel_rfl) (by kernel_rfl) (fun _ _ _ h => h) (Or.inl ⟨by rfl, ?_⟩) (by assumption) ?_
            rotate_left
            · intro w hSw; (try dsimp only at hSw); go_simp <;> with_reducible rfl
            try simp only [Act.put, List.setIfInBounds_toArray, List.set_cons_zero, List.set_cons_succ]
            refine wpAnyH_ready (rs := [10]) (by kernel_rfl) (by simp) ?_
            refine AllReadyH.cons (o := { dst := none, op := Op.store 24 (Operand.tmp 49) (Operand.tmp 48), type := 0, pos := "l16_change.go:54", after := #[{ on := 9, ground := Ground.data }, { on := 8, ground := Ground.data }, { on := 8, ground := Ground.chain }, { on := 0, ground := Ground.phase }, { on := 1, ground := Ground.phase }, { on := 2, ground := Ground.phase }, { on := 3, ground := Ground.phase }, { on := 4, ground := Ground.phase }, { on := 5, ground := Ground.phase }, { on := 6, ground := Ground.phase }, { on := 7, ground := Ground.phase }, { on := 8, ground := Ground.phase }], guard := none }) rfl (fun K hK => ?_) AllReadyH.nil
            have cb := row1 (unhide R6)
            have fb := frozen_of_row I3 b6 0 _ _ (unhide R6)
            go_simp
            have SGf := hide (show SG (I3.setCell ⟨b6, 0, none⟩ (.slice (some ⟨g, 0, none⟩) n c)) B0 (I3.setCell ⟨b6, 0, none⟩ (.slice (some ⟨g, 0, none⟩) n c)).heap.size (some ⟨g, 0, none⟩) n c (pickF (upd X k xp) (insQ k n q)) (pickF A' (insQ k n q)) by have h := (unhide LS).place (par := par) hk (unhide lT) (by rw [unhide hxp]; exact unhide hr) hq; rw [unhide hxp] at h; have h2 := h.setk (j := 0) (v := .slice (some ⟨g, 0, none⟩) n c) (unhide R6); simpa [World.setCell] using h2)
            have R6x := hide (show (I3.setCell ⟨b6, 0, none⟩ (.slice (some ⟨g, 0, none⟩) n c)).heap[b6]? = some (.cells #[.slice (some ⟨g, 0, none⟩) n c] 26 (0, 0)) by have := setC (v := .slice (some ⟨g, 0, none⟩) n c) (j := 0) (unhide R6); simpa using this)
            replace R1 := hide (setc_other (b := b6) (j := 0) (v := .slice (some ⟨g, 0, none⟩) n c) (by have := unhide lR; have := unhide l13; omega) (unhide R1))
            replace R4 := hide (setc_other (b := b6) (j := 0) (v := .slice (some ⟨g, 0, none⟩) n c) (by have := unhide lR; have := unhide l13; omega) (unhide R4))
            replace R13 := hide (setc_other (b := b6) (j := 0) (v := .slice (some ⟨g, 0, none⟩) n c) (by have := unhide lR; have := unhide l13; omega) (unhide R13))
            replace HB := hide ((unhide HB).setCell (p := ⟨b6, 0, none⟩) (by have := unhide lR; dsimp only; omega) (.slice (some ⟨g, 0, none⟩) n c))
            clear cb fb R6 LS hr lT
            have R6 := R6x
            clear R6x
            generalize (I3.setCell ⟨b6, 0, none⟩ (.slice (some ⟨g, 0, none⟩) n c)) = WL at R1 R4 R6 R13 HB SGf ⊢
            refine hK.out _ _ ?_ (fun hHeld => ?_)
            · exact unhide R13
            clear hK K
            try simp only [Act.put, List.setIfInBounds_toArray, List.set_cons_zero, List.set_cons_succ]
            refine wpAnyH_done (by kernel_rfl) ?_ _
            go_wp2_with fail
            go_meet
            exact ⟨_, rfl, R1, R4, R6, HB, SGf⟩
          refine AllReadyH.cons (o := { dst := some 47, op := Op.buildSlice 24 1 #[(0, Operand.tmp 46)], type := 24, pos := "l16_change.go:54", after := #[{ on := 6, ground := Ground.data }], guard := none }) rfl (fun K hK => ?_) ?_
          · refine step_build_node rfl _ rfl xp (A' k) rfl ?_
            have RZ := hide (new_row I0 (.cells (ndC xp (A' k)) 47))
            have lz := hide (show b6 ≤ I0.heap.size from unhide lT)
            have ba := hide (al1_below I0 (.cells (ndC xp (A' k)) 47))
            replace R1 := hide (row_next (unhide ba) (unhide R1))
            replace R4 := hide (row_next (unhide ba) (unhide R4))
            replace R6 := hide (row_next (unhide ba) (unhide R6))
            replace R13 := hide (row_next (unhide ba) (unhide R13))
            replace HB := hide (below_two (unhide HB) (unhide ba))
            replace LS := hide ((unhide LS).next (unhide ba))
            replace SGd := hide ((unhide SGd).next (unhide ba))
            replace lT := hide (Nat.le_trans (unhide lT) ((unhide ba)).size)
            clear ba
            generalize I0.alloc (.cells (ndC xp (A' k)) 47) = I4 at R1 R4 R6 R13 RZ HB LS SGd lT ⊢
            generalize I0.heap.size = z at RZ lz ⊢
            refine hK.out _ _ ?_ (fun hHeld => ?_)
            · exact unhide R13
            clear hK K
            try simp only [Act.put, List.setIfInBounds_toArray, List.set_cons_zero, List.set_cons_succ]
            refine wpAnyH_ready (rs := [4]) (by kernel_rfl) (by simp) ?_
            refine AllReadyH.cons (o := { dst := some 44, op := Op.call { callee := Callee.value (Operand.func 10), args := #[Operand.tmp 42, Operand.tmp 43], argTypes := #[26, 3] }, type := 3, pos := "l16_change.go:54", after := #[{ on := 2, ground := Ground.data }, { on := 3, ground := Ground.data }], guard := none }) rfl (fun K hK => ?_) AllReadyH.nil
            go_simp
            (go_at_call 10; go_fit (implNodeAt_any (pickF X (kp k n)) (pickF A' (kp k n)) (some ⟨g, 0, none⟩) n1 c hn1 beh _ (unhide SGd).nodes); rintro r I5 ⟨rfl, hb⟩)
            rw [unhide hZq]
            replace R1 := hide (row_next hb (unhide R1))
            replace R4 := hide (row_next hb (unhide R4))
            replace R6 := hide (row_next hb (unhide R6))
            replace R13 := hide (row_next hb (unhide R13))
            replace RZ := hide (row_next hb (unhide RZ))
            replace HB := hide (below_two (unhide HB) hb)
            replace LS := hide ((unhide LS).next hb)
            replace SGd := hide ((unhide SGd).next hb)
            replace lT := hide (Nat.le_trans (unhide lT) (hb).size)
            clear hb
            refine hK.out _ _ ?_ (fun hHeld => ?_)
            · exact unhide R13
            clear hK K
            try simp only [Act.put, List.setIfInBounds_toArray, List.set_cons_zero, List.set_cons_succ]
            refine wpAnyH_take (i := 5) (oi := { dst := some 45, op := Op.binOp BinOp.add 3 (Operand.tmp 44) (Operand.const (Value.int IntKind.i64 1)) 3, type := 3, pos := "l16_change.go:54", after := #[{ on := 4, ground := Ground.data }], guard := none }) (v := ?_) rfl (by kernel_rfl) (by kernel_rfl) (by kernel_rfl) (fun _ _ _ h => h) (Or.inl ⟨by rfl, ?_⟩) (by assumption) ?_
            rotate_left
            · intro w hSw; (try dsimp only at hSw); go_simp <;> with_reducible rfl
            try simp only [Act.put, List.setIfInBounds_toArray, List.set_cons_zero, List.set_cons_succ]
            refine wpAnyH_ready (rs := [8]) (by kernel_rfl) (by simp) ?_
            refine AllReadyH.cons (o := { dst := some 48, op := Op.call { callee := Callee.value (Operand.func 25), args := #[Operand.tmp 41, Operand.tmp 45, Operand.tmp 47], argTypes := #[24, 3, 24] }, type := 24, pos := "l16_change.go:54", after := #[{ on := 1, ground := Ground.data }, { on := 5, ground := Ground.data }, { on := 7, ground := Ground.data }, { on := 4, ground := Ground.chain }], guard := none }) rfl (fun K hK => ?_) AllReadyH.nil
            go_simp
            (go_at_call 25; go_fit (implInsert_any (pickF X (kp k n)) (pickF A' (kp k n)) g n1 c B0 b6 q hn1 hqn hnc xp (A' k) z _ (unhide SGd) (unhide RZ) (by have := unhide lz; have := unhide lg6; omega)); rintro r I6 ⟨rfl, hr, gr⟩)
            rw [hn1n] at hr ⊢
            replace R1 := hide ((gr.block b1 (heap_lt (unhide R1)) (fun e => unhide hg1 (Option.some.inj e))).trans (unhide R1))
            replace R4 := hide ((gr.block b4 (heap_lt (unhide R4)) (fun e => unhide hg4 (Option.some.inj e))).trans (unhide R4))
            replace R6 := hide ((gr.block b6 (heap_lt (unhide R6)) (fun e => unhide hg6 (Option.some.inj e))).trans (unhide R6))
            replace R13 := hide ((gr.block b13 (heap_lt (unhide R13)) (fun e => unhide hg13 (Option.some.inj e))).trans (unhide R13))
            replace HB := hide ((unhide HB).grown gr (unhide HB).size (fun k hk => by cases hk; have := unhide lR; have := unhide hg0; omega))
            replace LS := hide ((unhide LS).kept gr)
            replace lT := hide (Nat.le_trans (unhide lT) gr.size)
            replace hr := hide hr
            clear gr SGd RZ
            refine hK.out _ _ ?_ (fun hHeld => ?_)
            · exact unhide R13
            clear hK K
            try simp only [Act.put, List.setIfInBounds_toArray, List.set_cons_zero, List.set_cons_succ]
            refine wpAnyH_take (i := 9) (oi := { dst := some 49, op := Op.fieldAddr 26 (Operand.tmp 10) 0, type := 0, pos := "l16_change.go:54", after := #[{ on := 0, ground := Ground.phase }, { on := 1, ground := Ground.phase }, { on := 2, ground := Ground.phase }, { on := 3, ground := Ground.phase }, { on := 4, ground := Ground.phase }, { on := 5, ground := Ground.phase }, { on := 6, ground := Ground.phase }, { on := 7, ground := Ground.phase }, { on := 8, ground := Ground.phase }], guard := none }) (v := ?_) rfl (by kernel_rfl) (by kernel_rfl) (by kernel_rfl) (fun _ _ _ h => h) (Or.inl ⟨by rfl, ?_⟩) (by assumption) ?_
            rotate_left
            · intro w hSw; (try dsimp only at hSw); go_simp <;> with_reducible rfl
            try simp only [Act.put, List.setIfInBounds_toArray, List.set_cons_zero, List.set_cons_succ]
            refine wpAnyH_ready (rs := [10]) (by kernel_rfl) (by simp) ?_
            refine AllReadyH.cons (o := { dst := none, op := Op.store 24 (Operand.tmp 49) (Operand.tmp 48), type := 0, pos := "l16_change.go:54", after := #[{ on := 9, ground := Ground.data }, { on := 8, ground := Ground.data }, { on := 8, ground := Ground.chain }, { on := 0, ground := Ground.phase }, { on := 1, ground := Ground.phase }, { on := 2, ground := Ground.phase }, { on := 3, ground := Ground.phase }, { on := 4, ground := Ground.phase }, { on := 5, ground := Ground.phase }, { on := 6, ground := Ground.phase }, { on := 7, ground := Ground.phase }, { on := 8, ground := Ground.phase }], guard := none }) rfl (fun K hK => ?_) AllReadyH.nil
            have cb := row1 (unhide R6)
            have fb := frozen_of_row I6 b6 0 _ _ (unhide R6)
            go_simp
            have SGf := hide (show SG (I6.setCell ⟨b6, 0, none⟩ (.slice (some ⟨g, 0, none⟩) n c)) B0 (I6.setCell ⟨b6, 0, none⟩ (.slice (some ⟨g, 0, none⟩) n c)).heap.size (some ⟨g, 0, none⟩) n c (pickF (upd X k xp) (insQ k n q)) (pickF A' (insQ k n q)) by have h := (unhide LS).place (par := par) hk (unhide lT) (by rw [unhide hxp]; exact unhide hr) hq; rw [unhide hxp] at h; have h2 := h.setk (j := 0) (v := .slice (some ⟨g, 0, none⟩) n c) (unhide R6); simpa [World.setCell] using h2)
            have R6x := hide (show (I6.setCell ⟨b6, 0, none⟩ (.slice (some ⟨g, 0, none⟩) n c)).heap[b6]? = some (.cells #[.slice (some ⟨g, 0, none⟩) n c] 26 (0, 0)) by have := setC (v := .slice (some ⟨g, 0, none⟩) n c) (j := 0) (unhide R6); simpa using this)
            replace R1 := hide (setc_other (b := b6) (j := 0) (v := .slice (some ⟨g, 0, none⟩) n c) (by have := unhide lR; have := unhide l13; omega) (unhide R1))
            replace R4 := hide (setc_other (b := b6) (j := 0) (v := .slice (some ⟨g, 0, none⟩) n c) (by have := unhide lR; have := unhide l13; omega) (unhide R4))
            replace R13 := hide (setc_other (b := b6) (j := 0) (v := .slice (some ⟨g, 0, none⟩) n c) (by have := unhide lR; have := unhide l13; omega) (unhide R13))
            replace HB := hide ((unhide HB).setCell (p := ⟨b6, 0, none⟩) (by have := unhide lR; dsimp only; omega) (.slice (some ⟨g, 0, none⟩) n c))
            clear cb fb R6 LS hr lT
            have R6 := R6x
            clear R6x
            generalize (I6.setCell ⟨b6, 0, none⟩ (.slice (some ⟨g, 0, none⟩) n c)) = WL at R1 R4 R6 R13 HB SGf ⊢
            refine hK.out _ _ ?_ (fun hHeld => ?_)
            · exact unhide R13
            clear hK K
            try simp only [Act.put, List.setIfInBounds_toArray, List.set_cons_zero, List.set_cons_succ]
            refine wpAnyH_done (by kernel_rfl) ?_ _
            go_wp2_with fail
            go_meet
            exact ⟨_, rfl, R1, R4, R6, HB, SGf⟩
          exact AllReadyH.nil
        refine AllReadyH.cons (o := { dst := some 47, op := Op.buildSlice 24 1 #[(0, Operand.tmp 46)], type := 24, pos := "l16_change.go:54", after := #[{ on := 6, ground := Ground.data }], guard := none }) rfl (fun K hK => ?_) ?_
        · refine step_build_node rfl _ rfl xp (A' k) rfl ?_
          have RZ := hide (new_row I0 (.cells (ndC xp (A' k)) 47))
          have lz := hide (show b6 ≤ I0.heap.size from unhide lT)
          have ba := hide (al1_below I0 (.cells (ndC xp (A' k)) 47))
          replace R1 := hide (row_next (unhide ba) (unhide R1))
          replace R4 := hide (row_next (unhide ba) (unhide R4))
          replace R6 := hide (row_next (unhide ba) (unhide R6))
          replace R13 := hide (row_next (unhide ba) (unhide R13))
          replace HB := hide (below_two (unhide HB) (unhide ba))
          replace LS := hide ((unhide LS).next (unhide ba))
          replace SGd := hide ((unhide SGd).next (unhide ba))
          replace lT := hide (Nat.le_trans (unhide lT) ((unhide ba)).size)
          clear ba
          generalize I0.alloc (.cells (ndC xp (A' k)) 47) = I7 at R1 R4 R6 R13 RZ HB LS SGd lT ⊢
          generalize I0.heap.size = z at RZ lz ⊢
          refine hK.out _ _ ?_ (fun hHeld => ?_)
          · exact unhide R13
          clear hK K
          try simp only [Act.put, List.setIfInBounds_toArray, List.set_cons_zero, List.set_cons_succ]
          refine wpAnyH_ready (rs := [2]) (by kernel_rfl) (by simp) ?_
          refine AllReadyH.cons (o := { dst := some 42, op := Op.load 26 (Operand.tmp 10), type := 26, pos := "l16_change.go:54", after := #[], guard := none }) rfl (fun K hK => ?_) AllReadyH.nil
          have cb := row1 (unhide R6)
          go_simp
          refine hK.out _ _ ?_ (fun hHeld => ?_)
          · exact unhide R13
          clear hK K
          try simp only [Act.put, List.setIfInBounds_toArray, List.set_cons_zero, List.set_cons_succ]
          clear cb
          refine wpAnyH_ready (rs := [4]) (by kernel_rfl) (by simp) ?_
          refine AllReadyH.cons (o := { dst := some 44, op := Op.call { callee := Callee.value (Operand.func 10), args := #[Operand.tmp 42, Operand.tmp 43], argTypes := #[26, 3] }, type := 3, pos := "l16_change.go:54", after := #[{ on := 2, ground := Ground.data }, { on := 3, ground := Ground.data }], guard := none }) rfl (fun K hK => ?_) AllReadyH.nil
          go_simp
          (go_at_call 10; go_fit (implNodeAt_any (pickF X (kp k n)) (pickF A' (kp k n)) (some ⟨g, 0, none⟩) n1 c hn1 beh _ (unhide SGd).nodes); rintro r I8 ⟨rfl, hb⟩)
          rw [unhide hZq]
          replace R1 := hide (row_next hb (unhide R1))
          replace R4 := hide (row_next hb (unhide R4))
          replace R6 := hide (row_next hb (unhide R6))
          replace R13 := hide (row_next hb (unhide R13))
          replace RZ := hide (row_next hb (unhide RZ))
          replace HB := hide (below_two (unhide HB) hb)
          replace LS := hide ((unhide LS).next hb)
          replace SGd := hide ((unhide SGd).next hb)
          replace lT := hide (Nat.le_trans (unhide lT) (hb).size)
          clear hb
          refine hK.out _ _ ?_ (fun hHeld => ?_)
          · exact unhide R13
          clear hK K
          try simp only [Act.put, List.setIfInBounds_toArray, List.set_cons_zero, List.set_cons_succ]
          refine wpAnyH_take (i := 5) (oi := { dst := some 45, op := Op.binOp BinOp.add 3 (Operand.tmp 44) (Operand.const (Value.int IntKind.i64 1)) 3, type := 3, pos := "l16_change.go:54", after := #[{ on := 4, ground := Ground.data }], guard := none }) (v := ?_) rfl (by kernel_rfl) (by kernel_rfl) (by kernel_rfl) (fun _ _ _ h => h) (Or.inl ⟨by rfl, ?_⟩) (by assumption) ?_
          rotate_left
          · intro w hSw; (try dsimp only at hSw); go_simp <;> with_reducible rfl
          try simp only [Act.put, List.setIfInBounds_toArray, List.set_cons_zero, List.set_cons_succ]
          refine wpAnyH_ready (rs := [8]) (by kernel_rfl) (by simp) ?_
          refine AllReadyH.cons (o := { dst := some 48, op := Op.call { callee := Callee.value (Operand.func 25), args := #[Operand.tmp 41, Operand.tmp 45, Operand.tmp 47], argTypes := #[24, 3, 24] }, type := 24, pos := "l16_change.go:54", after := #[{ on := 1, ground := Ground.data }, { on := 5, ground := Ground.data }, { on := 7, ground := Ground.data }, { on := 4, ground := Ground.chain }], guard := none }) rfl (fun K hK => ?_) AllReadyH.nil
          go_simp
          (go_at_call 25; go_fit (implInsert_any (pickF X (kp k n)) (pickF A' (kp k n)) g n1 c B0 b6 q hn1 hqn hnc xp (A' k) z _ (unhide SGd) (unhide RZ) (by have := unhide lz; have := unhide lg6; omega)); rintro r I9 ⟨rfl, hr, gr⟩)
          rw [hn1n] at hr ⊢
          replace R1 := hide ((gr.block b1 (heap_lt (unhide R1)) (fun e => unhide hg1 (Option.some.inj e))).trans (unhide R1))
          replace R4 := hide ((gr.block b4 (heap_lt (unhide R4)) (fun e => unhide hg4 (Option.some.inj e))).trans (unhide R4))
          replace R6 := hide ((gr.block b6 (heap_lt (unhide R6)) (fun e => unhide hg6 (Option.some.inj e))).trans (unhide R6))
          replace R13 := hide ((gr.block b13 (heap_lt (unhide R13)) (fun e => unhide hg13 (Option.some.inj e))).trans (unhide R13))
          replace HB := hide ((unhide HB).grown gr (unhide HB).size (fun k hk => by cases hk; have := unhide lR; have := unhide hg0; omega))
          replace LS := hide ((unhide LS).kept gr)
          replace lT := hide (Nat.le_trans (unhide lT) gr.size)
          replace hr := hide hr
          clear gr SGd RZ
          refine hK.out _ _ ?_ (fun hHeld => ?_)
          · exact unhide R13
          clear hK K
          try simp only [Act.put, List.setIfInBounds_toArray, List.set_cons_zero, List.set_cons_succ]
          refine wpAnyH_take (i := 9) (oi := { dst := some 49, op := Op.fieldAddr 26 (Operand.tmp 10) 0, type := 0, pos := "l16_change.go:54", after := #[{ on := 0, ground := Ground.phase }, { on := 1, ground := Ground.phase }, { on := 2, ground := Ground.phase }, { on := 3, ground := Ground.phase }, { on := 4, ground := Ground.phase }, { on := 5, ground := Ground.phase }, { on := 6, ground := Ground.phase }, { on := 7, ground := Ground.phase }, { on := 8, ground := Ground.phase }], guard := none }) (v := ?_) rfl (by kernel_rfl) (by kernel_rfl) (by kernel_rfl) (fun _ _ _ h => h) (Or.inl ⟨by rfl, ?_⟩) (by assumption) ?_
          rotate_left
          · intro w hSw; (try dsimp only at hSw); go_simp <;> with_reducible rfl
          try simp only [Act.put, List.setIfInBounds_toArray, List.set_cons_zero, List.set_cons_succ]
          refine wpAnyH_ready (rs := [10]) (by kernel_rfl) (by simp) ?_
          refine AllReadyH.cons (o := { dst := none, op := Op.store 24 (Operand.tmp 49) (Operand.tmp 48), type := 0, pos := "l16_change.go:54", after := #[{ on := 9, ground := Ground.data }, { on := 8, ground := Ground.data }, { on := 8, ground := Ground.chain }, { on := 0, ground := Ground.phase }, { on := 1, ground := Ground.phase }, { on := 2, ground := Ground.phase }, { on := 3, ground := Ground.phase }, { on := 4, ground := Ground.phase }, { on := 5, ground := Ground.phase }, { on := 6, ground := Ground.phase }, { on := 7, ground := Ground.phase }, { on := 8, ground := Ground.phase }], guard := none }) rfl (fun K hK => ?_) AllReadyH.nil
          have cb := row1 (unhide R6)
          have fb := frozen_of_row I9 b6 0 _ _ (unhide R6)
          go_simp
          have SGf := hide (show SG (I9.setCell ⟨b6, 0, none⟩ (.slice (some ⟨g, 0, none⟩) n c)) B0 (I9.setCell ⟨b6, 0, none⟩ (.slice (some ⟨g, 0, none⟩) n c)).heap.size (some ⟨g, 0, none⟩) n c (pickF (upd X k xp) (insQ k n q)) (pickF A' (insQ k n q)) by have h := (unhide LS).place (par := par) hk (unhide lT) (by rw [unhide hxp]; exact unhide hr) hq; rw [unhide hxp] at h; have h2 := h.setk (j := 0) (v := .slice (some ⟨g, 0, none⟩) n c) (unhide R6); simpa [World.setCell] using h2)
          have R6x := hide (show (I9.setCell ⟨b6, 0, none⟩ (.slice (some ⟨g, 0, none⟩) n c)).heap[b6]? = some (.cells #[.slice (some ⟨g, 0, none⟩) n c] 26 (0, 0)) by have := setC (v := .slice (some ⟨g, 0, none⟩) n c) (j := 0) (unhide R6); simpa using this)
          replace R1 := hide (setc_other (b := b6) (j := 0) (v := .slice (some ⟨g, 0, none⟩) n c) (by have := unhide lR; have := unhide l13; omega) (unhide R1))
          replace R4 := hide (setc_other (b := b6) (j := 0) (v := .slice (some ⟨g, 0, none⟩) n c) (by have := unhide lR; have := unhide l13; omega) (unhide R4))
          replace R13 := hide (setc_other (b := b6) (j := 0) (v := .slice (some ⟨g, 0, none⟩) n c) (by have := unhide lR; have := unhide l13; omega) (unhide R13))
          replace HB := hide ((unhide HB).setCell (p := ⟨b6, 0, none⟩) (by have := unhide lR; dsimp only; omega) (.slice (some ⟨g, 0, none⟩) n c))
          clear cb fb R6 LS hr lT
          have R6 := R6x
          clear R6x
          generalize (I9.setCell ⟨b6, 0, none⟩ (.slice (some ⟨g, 0, none⟩) n c)) = WL at R1 R4 R6 R13 HB SGf ⊢
          refine hK.out _ _ ?_ (fun hHeld => ?_)
          · exact unhide R13
          clear hK K
          try simp only [Act.put, List.setIfInBounds_toArray, List.set_cons_zero, List.set_cons_succ]
          refine wpAnyH_done (by kernel_rfl) ?_ _
          go_wp2_with fail
          go_meet
          exact ⟨_, rfl, R1, R4, R6, HB, SGf⟩
        exact AllReadyH.nil
      refine AllReadyH.cons (o := { dst := some 42, op := Op.load 26 (Operand.tmp 10), type := 26, pos := "l16_change.go:54", after := #[], guard := none }) rfl (fun K hK => ?_) ?_
      · have cb := row1 (unhide R6)
        go_simp
        refine hK.out _ _ ?_ (fun hHeld => ?_)
        · exact unhide R13
        clear hK K
        try simp only [Act.put, List.setIfInBounds_toArray, List.set_cons_zero, List.set_cons_succ]
        clear cb
        refine wpAnyH_ready (rs := [1, 4, 7]) (by kernel_rfl) (by simp) ?_
        refine AllReadyH.cons (o := { dst := some 41, op := Op.load 24 (Operand.tmp 40), type := 24, pos := "l16_change.go:54", after := #[{ on := 0, ground := Ground.data }], guard := none }) rfl (fun K hK => ?_) ?_
        · have cb := row1 (unhide R6)
          go_simp
          refine hK.out _ _ ?_ (fun hHeld => ?_)
          · exact unhide R13
          clear hK K
          try simp only [Act.put, List.setIfInBounds_toArray, List.set_cons_zero, List.set_cons_succ]
          clear cb
          refine wpAnyH_ready (rs := [4, 7]) (by kernel_rfl) (by simp) ?_
          refine AllReadyH.cons (o := { dst := some 44, op := Op.call { callee := Callee.value (Operand.func 10), args := #[Operand.tmp 42, Operand.tmp 43], argTypes := #[26, 3] }, type := 3, pos := "l16_change.go:54", after := #[{ on := 2, ground := Ground.data }, { on := 3, ground := Ground.data }], guard := none }) rfl (fun K hK => ?_) ?_
          · go_simp
            (go_at_call 10; go_fit (implNodeAt_any (pickF X (kp k n)) (pickF A' (kp k n)) (some ⟨g, 0, none⟩) n1 c hn1 beh _ (unhide SGd).nodes); rintro r I10 ⟨rfl, hb⟩)
            rw [unhide hZq]
            replace R1 := hide (row_next hb (unhide R1))
            replace R4 := hide (row_next hb (unhide R4))
            replace R6 := hide (row_next hb (unhide R6))
            replace R13 := hide (row_next hb (unhide R13))
            replace HB := hide (below_two (unhide HB) hb)
            replace LS := hide ((unhide LS).next hb)
            replace SGd := hide ((unhide SGd).next hb)
            replace lT := hide (Nat.le_trans (unhide lT) (hb).size)
            clear hb
            refine hK.out _ _ ?_ (fun hHeld => ?_)
            · exact unhide R13
            clear hK K
            try simp only [Act.put, List.setIfInBounds_toArray, List.set_cons_zero, List.set_cons_succ]
            refine wpAnyH_take (i := 5) (oi := { dst := some 45, op := Op.binOp BinOp.add 3 (Operand.tmp 44) (Operand.const (Value.int IntKind.i64 1)) 3, type := 3, pos := "l16_change.go:54", after := #[{ on := 4, ground := Ground.data }], guard := none }) (v := ?_) rfl (by kernel_rfl) (by kernel_rfl) (by kernel_rfl) (fun _ _ _ h => h) (Or.inl ⟨by rfl, ?_⟩) (by assumption) ?_
            rotate_left
            · intro w hSw; (try dsimp only at hSw); go_simp <;> with_reducible rfl
            try simp only [Act.put, List.setIfInBounds_toArray, List.set_cons_zero, List.set_cons_succ]
            refine wpAnyH_ready (rs := [7]) (by kernel_rfl) (by simp) ?_
            refine AllReadyH.cons (o := { dst := some 47, op := Op.buildSlice 24 1 #[(0, Operand.tmp 46)], type := 24, pos := "l16_change.go:54", after := #[{ on := 6, ground := Ground.data }], guard := none }) rfl (fun K hK => ?_) AllReadyH.nil
            refine step_build_node rfl _ rfl xp (A' k) rfl ?_
            have RZ := hide (new_row I10 (.cells (ndC xp (A' k)) 47))
            have lz := hide (show b6 ≤ I10.heap.size from unhide lT)
            have ba := hide (al1_below I10 (.cells (ndC xp (A' k)) 47))
            replace R1 := hide (row_next (unhide ba) (unhide R1))
            replace R4 := hide (row_next (unhide ba) (unhide R4))
            replace R6 := hide (row_next (unhide ba) (unhide R6))
            replace R13 := hide (row_next (unhide ba) (unhide R13))
            replace HB := hide (below_two (unhide HB) (unhide ba))
            replace LS := hide ((unhide LS).next (unhide ba))
            replace SGd := hide ((unhide SGd).next (unhide ba))
            replace lT := hide (Nat.le_trans (unhide lT) ((unhide ba)).size)
            clear ba
            generalize I10.alloc (.cells (ndC xp (A' k)) 47) = I11 at R1 R4 R6 R13 RZ HB LS SGd lT ⊢
            generalize I10.heap.size = z at RZ lz ⊢
            refine hK.out _ _ ?_ (fun hHeld => ?_)
            · exact unhide R13
            clear hK K
            try simp only [Act.put, List.setIfInBounds_toArray, List.set_cons_zero, List.set_cons_succ]
            refine wpAnyH_ready (rs := [8]) (by kernel_rfl) (by simp) ?_
            refine AllReadyH.cons (o := { dst := some 48, op := Op.call { callee := Callee.value (Operand.func 25), args := #[Operand.tmp 41, Operand.tmp 45, Operand.tmp 47], argTypes := #[24, 3, 24] }, type := 24, pos := "l16_change.go:54", after := #[{ on := 1, ground := Ground.data }, { on := 5, ground := Ground.data }, { on := 7, ground := Ground.data }, { on := 4, ground := Ground.chain }], guard := none }) rfl (fun K hK => ?_) AllReadyH.nil
            go_simp
            (go_at_call 25; go_fit (implInsert_any (pickF X (kp k n)) (pickF A' (kp k n)) g n1 c B0 b6 q hn1 hqn hnc xp (A' k) z _ (unhide SGd) (unhide RZ) (by have := unhide lz; have := unhide lg6; omega)); rintro r I12 ⟨rfl, hr, gr⟩)
            rw [hn1n] at hr ⊢
            replace R1 := hide ((gr.block b1 (heap_lt (unhide R1)) (fun e => unhide hg1 (Option.some.inj e))).trans (unhide R1))
            replace R4 := hide ((gr.block b4 (heap_lt (unhide R4)) (fun e => unhide hg4 (Option.some.inj e))).trans (unhide R4))
            replace R6 := hide ((gr.block b6 (heap_lt (unhide R6)) (fun e => unhide hg6 (Option.some.inj e))).trans (unhide R6))
            replace R13 := hide ((gr.block b13 (heap_lt (unhide R13)) (fun e => unhide hg13 (Option.some.inj e))).trans (unhide R13))
            replace HB := hide ((unhide HB).grown gr (unhide HB).size (fun k hk => by cases hk; have := unhide lR; have := unhide hg0; omega))
            replace LS := hide ((unhide LS).kept gr)
            replace lT := hide (Nat.le_trans (unhide lT) gr.size)
            replace hr := hide hr
            clear gr SGd RZ
            refine hK.out _ _ ?_ (fun hHeld => ?_)
            · exact unhide R13
            clear hK K
            try simp only [Act.put, List.setIfInBounds_toArray, List.set_cons_zero, List.set_cons_succ]
            refine wpAnyH_take (i := 9) (oi := { dst := some 49, op := Op.fieldAddr 26 (Operand.tmp 10) 0, type := 0, pos := "l16_change.go:54", after := #[{ on := 0, ground := Ground.phase }, { on := 1, ground := Ground.phase }, { on := 2, ground := Ground.phase }, { on := 3, ground := Ground.phase }, { on := 4, ground := Ground.phase }, { on := 5, ground := Ground.phase }, { on := 6, ground := Ground.phase }, { on := 7, ground := Ground.phase }, { on := 8, ground := Ground.phase }], guard := none }) (v := ?_) rfl (by kernel_rfl) (by kernel_rfl) (by kernel_rfl) (fun _ _ _ h => h) (Or.inl ⟨by rfl, ?_⟩) (by assumption) ?_
            rotate_left
            · intro w hSw; (try dsimp only at hSw); go_simp <;> with_reducible rfl
            try simp only [Act.put, List.setIfInBounds_toArray, List.set_cons_zero, List.set_cons_succ]
            refine wpAnyH_ready (rs := [10]) (by kernel_rfl) (by simp) ?_
            refine AllReadyH.cons (o := { dst := none, op := Op.store 24 (Operand.tmp 49) (Operand.tmp 48), type := 0, pos := "l16_change.go:54", after := #[{ on := 9, ground := Ground.data }, { on := 8, ground := Ground.data }, { on := 8, ground := Ground.chain }, { on := 0, ground := Ground.phase }, { on := 1, ground := Ground.phase }, { on := 2, ground := Ground.phase }, { on := 3, ground := Ground.phase }, { on := 4, ground := Ground.phase }, { on := 5, ground := Ground.phase }, { on := 6, ground := Ground.phase }, { on := 7, ground := Ground.phase }, { on := 8, ground := Ground.phase }], guard := none }) rfl (fun K hK => ?_) AllReadyH.nil
            have cb := row1 (unhide R6)
            have fb := frozen_of_row I12 b6 0 _ _ (unhide R6)
            go_simp
            have SGf := hide (show SG (I12.setCell ⟨b6, 0, none⟩ (.slice (some ⟨g, 0, none⟩) n c)) B0 (I12.setCell ⟨b6, 0, none⟩ (.slice (some ⟨g, 0, none⟩) n c)).heap.size (some ⟨g, 0, none⟩) n c (pickF (upd X k xp) (insQ k n q)) (pickF A' (insQ k n q)) by have h := (unhide LS).place (par := par) hk (unhide lT) (by rw [unhide hxp]; exact unhide hr) hq; rw [unhide hxp] at h; have h2 := h.setk (j := 0) (v := .slice (some ⟨g, 0, none⟩) n c) (unhide R6); simpa [World.setCell] using h2)
            have R6x := hide (show (I12.setCell ⟨b6, 0, none⟩ (.slice (some ⟨g, 0, none⟩) n c)).heap[b6]? = some (.cells #[.slice (some ⟨g, 0, none⟩) n c] 26 (0, 0)) by have := setC (v := .slice (some ⟨g, 0, none⟩) n c) (j := 0) (unhide R6); simpa using this)
            replace R1 := hide (setc_other (b := b6) (j := 0) (v := .slice (some ⟨g, 0, none⟩) n c) (by have := unhide lR; have := unhide l13; omega) (unhide R1))
            replace R4 := hide (setc_other (b := b6) (j := 0) (v := .slice (some ⟨g, 0, none⟩) n c) (by have := unhide lR; have := unhide l13; omega) (unhide R4))
            replace R13 := hide (setc_other (b := b6) (j := 0) (v := .slice (some ⟨g, 0, none⟩) n c) (by have := unhide lR; have := unhide l13; omega) (unhide R13))
            replace HB := hide ((unhide HB).setCell (p := ⟨b6, 0, none⟩) (by have := unhide lR; dsimp only; omega) (.slice (some ⟨g, 0, none⟩) n c))
            clear cb fb R6 LS hr lT
            have R6 := R6x
            clear R6x
            generalize (I12.setCell ⟨b6, 0, none⟩ (.slice (some ⟨g, 0, none⟩) n c)) = WL at R1 R4 R6 R13 HB SGf ⊢
            refine hK.out _ _ ?_ (fun hHeld => ?_)
            · exact unhide R13
            clear hK K
            try simp only [Act.put, List.setIfInBounds_toArray, List.set_cons_zero, List.set_cons_succ]
            refine wpAnyH_done (by kernel_rfl) ?_ _
            go_wp2_with fail
            go_meet
            exact ⟨_, rfl, R1, R4, R6, HB, SGf⟩
          refine AllReadyH.cons (o := { dst := some 47, op := Op.buildSlice 24 1 #[(0, Operand.tmp 46)], type := 24, pos := "l16_change.go:54", after := #[{ on := 6, ground := Ground.data }], guard := none }) rfl (fun K hK => ?_) ?_
          · refine step_build_node rfl _ rfl xp (A' k) rfl ?_
            have RZ := hide (new_row I0 (.cells (ndC xp (A' k)) 47))
            have lz := hide (show b6 ≤ I0.heap.size from unhide lT)
            have ba := hide (al1_below I0 (.cells (ndC xp (A' k)) 47))
            replace R1 := hide (row_next (unhide ba) (unhide R1))
            replace R4 := hide (row_next (unhide ba) (unhide R4))
            replace R6 := hide (row_next (unhide ba) (unhide R6))
            replace R13 := hide (row_next (unhide ba) (unhide R13))
            replace HB := hide (below_two (unhide HB) (unhide ba))
            replace LS := hide ((unhide LS).next (unhide ba))
            replace SGd := hide ((unhide SGd).next (unhide ba))
            replace lT := hide (Nat.le_trans (unhide lT) ((unhide ba)).size)
            clear ba
            generalize I0.alloc (.cells (ndC xp (A' k)) 47) = I13 at R1 R4 R6 R13 RZ HB LS SGd lT ⊢
            generalize I0.heap.size = z at RZ lz ⊢
            refine hK.out _ _ ?_ (fun hHeld => ?_)
            · exact unhide R13
            clear hK K
            try simp only [Act.put, List.setIfInBounds_toArray, List.set_cons_zero, List.set_cons_succ]
            refine wpAnyH_ready (rs := [4]) (by kernel_rfl) (by simp) ?_
            refine AllReadyH.cons (o := { dst := some 44, op := Op.call { callee := Callee.value (Operand.func 10), args := #[Operand.tmp 42, Operand.tmp 43], argTypes := #[26, 3] }, type := 3, pos := "l16_change.go:54", after := #[{ on := 2, ground := Ground.data }, { on := 3, ground := Ground.data }], guard := none }) rfl (fun K hK => ?_) AllReadyH.nil
            go_simp
            (go_at_call 10; go_fit (implNodeAt_any (pickF X (kp k n)) (pickF A' (kp k n)) (some ⟨g, 0, none⟩) n1 c hn1 beh _ (unhide SGd).nodes); rintro r I14 ⟨rfl, hb⟩)
            rw [unhide hZq]
            replace R1 := hide (row_next hb (unhide R1))
            replace R4 := hide (row_next hb (unhide R4))
            replace R6 := hide (row_next hb (unhide R6))
            replace R13 := hide (row_next hb (unhide R13))
            replace RZ := hide (row_next hb (unhide RZ))
            replace HB := hide (below_two (unhide HB) hb)
            replace LS := hide ((unhide LS).next hb)
            replace SGd := hide ((unhide SGd).next hb)
            replace lT := hide (Nat.le_trans (unhide lT) (hb).size)
            clear hb
            refine hK.out _ _ ?_ (fun hHeld => ?_)
            · exact unhide R13
            clear hK K
            try simp only [Act.put, List.setIfInBounds_toArray, List.set_cons_zero, List.set_cons_succ]
            refine wpAnyH_take (i := 5) (oi := { dst := some 45, op := Op.binOp BinOp.add 3 (Operand.tmp 44) (Operand.const (Value.int IntKind.i64 1)) 3, type := 3, pos := "l16_change.go:54", after := #[{ on := 4, ground := Ground.data }], guard := none }) (v := ?_) rfl (by kernel_rfl) (by kernel_rfl) (by kernel_rfl) (fun _ _ _ h => h) (Or.inl ⟨by rfl, ?_⟩) (by assumption) ?_
            rotate_left
            · intro w hSw; (try dsimp only at hSw); go_simp <;> with_reducible rfl
            try simp only [Act.put, List.setIfInBounds_toArray, List.set_cons_zero, List.set_cons_succ]
            refine wpAnyH_ready (rs := [8]) (by kernel_rfl) (by simp) ?_
            refine AllReadyH.cons (o := { dst := some 48, op := Op.call { callee := Callee.value (Operand.func 25), args := #[Operand.tmp 41, Operand.tmp 45, Operand.tmp 47], argTypes := #[24, 3, 24] }, type := 24, pos := "l16_change.go:54", after := #[{ on := 1, ground := Ground.data }, { on := 5, ground := Ground.data }, { on := 7, ground := Ground.data }, { on := 4, ground := Ground.chain }], guard := none }) rfl (fun K hK => ?_) AllReadyH.nil
            go_simp
            (go_at_call 25; go_fit (implInsert_any (pickF X (kp k n)) (pickF A' (kp k n)) g n1 c B0 b6 q hn1 hqn hnc xp (A' k) z _ (unhide SGd) (unhide RZ) (by have := unhide lz; have := unhide lg6; omega)); rintro r I15 ⟨rfl, hr, gr⟩)
            rw [hn1n] at hr ⊢
            replace R1 := hide ((gr.block b1 (heap_lt (unhide R1)) (fun e => unhide hg1 (Option.some.inj e))).trans (unhide R1))
            replace R4 := hide ((gr.block b4 (heap_lt (unhide R4)) (fun e => unhide hg4 (Option.some.inj e))).trans (unhide R4))
            replace R6 := hide ((gr.block b6 (heap_lt (unhide R6)) (fun e => unhide hg6 (Option.some.inj e))).trans (unhide R6))
            replace R13 := hide ((gr.block b13 (heap_lt (unhide R13)) (fun e => unhide hg13 (Option.some.inj e))).trans (unhide R13))
            replace HB := hide ((unhide HB).grown gr (unhide HB).size (fun k hk => by cases hk; have := unhide lR; have := unhide hg0; omega))
            replace LS := hide ((unhide LS).kept gr)
            replace lT := hide (Nat.le_trans (unhide lT) gr.size)
            replace hr := hide hr
            clear gr SGd RZ
            refine hK.out _ _ ?_ (fun hHeld => ?_)
            · exact unhide R13
            clear hK K
            try simp only [Act.put, List.setIfInBounds_toArray, List.set_cons_zero, List.set_cons_succ]
            refine wpAnyH_take (i := 9) (oi := { dst := some 49, op := Op.fieldAddr 26 (Operand.tmp 10) 0, type := 0, pos := "l16_change.go:54", after := #[{ on := 0, ground := Ground.phase }, { on := 1, ground := Ground.phase }, { on := 2, ground := Ground.phase }, { on := 3, ground := Ground.phase }, { on := 4, ground := Ground.phase }, { on := 5, ground := Ground.phase }, { on := 6, ground := Ground.phase }, { on := 7, ground := Ground.phase }, { on := 8, ground := Ground.phase }], guard := none }) (v := ?_) rfl (by kernel_rfl) (by kernel_rfl) (by kernel_rfl) (fun _ _ _ h => h) (Or.inl ⟨by rfl, ?_⟩) (by assumption) ?_
            rotate_left
            · intro w hSw; (try dsimp only at hSw); go_simp <;> with_reducible rfl
            try simp only [Act.put, List.setIfInBounds_toArray, List.set_cons_zero, List.set_cons_succ]
            refine wpAnyH_ready (rs := [10]) (by kernel_rfl) (by simp) ?_
            refine AllReadyH.cons (o := { dst := none, op := Op.store 24 (Operand.tmp 49) (Operand.tmp 48), type := 0, pos := "l16_change.go:54", after := #[{ on := 9, ground := Ground.data }, { on := 8, ground := Ground.data }, { on := 8, ground := Ground.chain }, { on := 0, ground := Ground.phase }, { on := 1, ground := Ground.phase }, { on := 2, ground := Ground.phase }, { on := 3, ground := Ground.phase }, { on := 4, ground := Ground.phase }, { on := 5, ground := Ground.phase }, { on := 6, ground := Ground.phase }, { on := 7, ground := Ground.phase }, { on := 8, ground := Ground.phase }], guard := none }) rfl (fun K hK => ?_) AllReadyH.nil
            have cb := row1 (unhide R6)
            have fb := frozen_of_row I15 b6 0 _ _ (unhide R6)
            go_simp
            have SGf := hide (show SG (I15.setCell ⟨b6, 0, none⟩ (.slice (some ⟨g, 0, none⟩) n c)) B0 (I15.setCell ⟨b6, 0, none⟩ (.slice (some ⟨g, 0, none⟩) n c)).heap.size (some ⟨g, 0, none⟩) n c (pickF (upd X k xp) (insQ k n q)) (pickF A' (insQ k n q)) by have h := (unhide LS).place (par := par) hk (unhide lT) (by rw [unhide hxp]; exact unhide hr) hq; rw [unhide hxp] at h; have h2 := h.setk (j := 0) (v := .slice (some ⟨g, 0, none⟩) n c) (unhide R6); simpa [World.setCell] using h2)
            have R6x := hide (show (I15.setCell ⟨b6, 0, none⟩ (.slice (some ⟨g, 0, none⟩) n c)).heap[b6]? = some (.cells #[.slice (some ⟨g, 0, none⟩) n c] 26 (0, 0)) by have := setC (v := .slice (some ⟨g, 0, none⟩) n c) (j := 0) (unhide R6); simpa using this)
            replace R1 := hide (setc_other (b := b6) (j := 0) (v := .slice (some ⟨g, 0, none⟩) n c) (by have := unhide lR; have := unhide l13; omega) (unhide R1))
            replace R4 := hide (setc_other (b := b6) (j := 0) (v := .slice (some ⟨g, 0, none⟩) n c) (by have := unhide lR; have := unhide l13; omega) (unhide R4))
            replace R13 := hide (setc_other (b := b6) (j := 0) (v := .slice (some ⟨g, 0, none⟩) n c) (by have := unhide lR; have := unhide l13; omega) (unhide R13))
            replace HB := hide ((unhide HB).setCell (p := ⟨b6, 0, none⟩) (by have := unhide lR; dsimp only; omega) (.slice (some ⟨g, 0, none⟩) n c))
            clear cb fb R6 LS hr lT
            have R6 := R6x
            clear R6x
            generalize (I15.setCell ⟨b6, 0, none⟩ (.slice (some ⟨g, 0, none⟩) n c)) = WL at R1 R4 R6 R13 HB SGf ⊢
            refine hK.out _ _ ?_ (fun hHeld => ?_)
            · exact unhide R13
            clear hK K
            try simp only [Act.put, List.setIfInBounds_toArray, List.set_cons_zero, List.set_cons_succ]
            refine wpAnyH_done (by kernel_rfl) ?_ _
            go_wp2_with fail
            go_meet
            exact ⟨_, rfl, R1, R4, R6, HB, SGf⟩
          exact AllReadyH.nil
        refine AllReadyH.cons (o := { dst := some 44, op := Op.call { callee := Callee.value (Operand.func 10), args := #[Operand.tmp 42, Operand.tmp 43], argTypes := #[26, 3] }, type := 3, pos := "l16_change.go:54", after := #[{ on := 2, ground := Ground.data }, { on := 3, ground := Ground.data }], guard := none }) rfl (fun K hK => ?_) ?_
        · go_simp
          (go_at_call 10; go_fit (implNodeAt_any (pickF X (kp k n)) (pickF A' (kp k n)) (some ⟨g, 0, none⟩) n1 c hn1 beh _ (unhide SGd).nodes); rintro r I16 ⟨rfl, hb⟩)
          rw [unhide hZq]
          replace R1 := hide (row_next hb (unhide R1))
          replace R4 := hide (row_next hb (unhide R4))
          replace R6 := hide (row_next hb (unhide R6))
          replace R13 := hide (row_next hb (unhide R13))
          replace HB := hide (below_two (unhide HB) hb)
          replace LS := hide ((unhide LS).next hb)
          replace SGd := hide ((unhide SGd).next hb)
          replace lT := hide (Nat.le_trans (unhide lT) (hb).size)
          clear hb
          refine hK.out _ _ ?_ (fun hHeld => ?_)
          · exact unhide R13
          clear hK K
          try simp only [Act.put, List.setIfInBounds_toArray, List.set_cons_zero, List.set_cons_succ]
          refine wpAnyH_take (i := 5) (oi := { dst := some 45, op := Op.binOp BinOp.add 3 (Operand.tmp 44) (Operand.const (Value.int IntKind.i64 1)) 3, type := 3, pos := "l16_change.go:54", after := #[{ on := 4, ground := Ground.data }], guard := none }) (v := ?_) rfl (by kernel_rfl) (by kernel_rfl) (by kernel_rfl) (fun _ _ _ h => h) (Or.inl ⟨by rfl, ?_⟩) (by assumption) ?_
          rotate_left
          · intro w hSw; (try dsimp only at hSw); go_simp <;> with_reducible rfl
          try simp only [Act.put, List.setIfInBounds_toArray, List.set_cons_zero, List.set_cons_succ]
          refine wpAnyH_ready (rs := [1, 7]) (by kernel_rfl) (by simp) ?_
          refine AllReadyH.cons (o := { dst := some 41, op := Op.load 24 (Operand.tmp 40), type := 24, pos := "l16_change.go:54", after := #[{ on := 0, ground := Ground.data }], guard := none }) rfl (fun K hK => ?_) ?_
          · have cb := row1 (unhide R6)
            go_simp
            refine hK.out _ _ ?_ (fun hHeld => ?_)
            · exact unhide R13
            clear hK K
            try simp only [Act.put, List.setIfInBounds_toArray, List.set_cons_zero, List.set_cons_succ]
            clear cb
            refine wpAnyH_ready (rs := [7]) (by kernel_rfl) (by simp) ?_
            refine AllReadyH.cons (o := { dst := some 47, op := Op.buildSlice 24 1 #[(0, Operand.tmp 46)], type := 24, pos := "l16_change.go:54", after := #[{ on := 6, ground := Ground.data }], guard := none }) rfl (fun K hK => ?_) AllReadyH.nil
            refine step_build_node rfl _ rfl xp (A' k) rfl ?_
            have RZ := hide (new_row I16 (.cells (ndC xp (A' k)) 47))
            have lz := hide (show b6 ≤ I16.heap.size from unhide lT)
            have ba := hide (al1_below I16 (.cells (ndC xp (A' k)) 47))
            replace R1 := hide (row_next (unhide ba) (unhide R1))
            replace R4 := hide (row_next (unhide ba) (unhide R4))
            replace R6 := hide (row_next (unhide ba) (unhide R6))
            replace R13 := hide (row_next (unhide ba) (unhide R13))
            replace HB := hide (below_two (unhide HB) (unhide ba))
            replace LS := hide ((unhide LS).next (unhide ba))
            replace SGd := hide ((unhide SGd).next (unhide ba))
            replace lT := hide (Nat.le_trans (unhide lT) ((unhide ba)).size)
            clear ba
            generalize I16.alloc (.cells (ndC xp (A' k)) 47) = I17 at R1 R4 R6 R13 RZ HB LS SGd lT ⊢
            generalize I16.heap.size = z at RZ lz ⊢
            refine hK.out _ _ ?_ (fun hHeld => ?_)
            · exact unhide R13
            clear hK K
            try simp only [Act.put, List.setIfInBounds_toArray, List.set_cons_zero, List.set_cons_succ]
            refine wpAnyH_ready (rs := [8]) (by kernel_rfl) (by simp) ?_
            refine AllReadyH.cons (o := { dst := some 48, op := Op.call { callee := Callee.value (Operand.func 25), args := #[Operand.tmp 41, Operand.tmp 45, Operand.tmp 47], argTypes := #[24, 3, 24] }, type := 24, pos := "l16_change.go:54", after := #[{ on := 1, ground := Ground.data }, { on := 5, ground := Ground.data }, { on := 7, ground := Ground.data }, { on := 4, ground := Ground.chain }], guard := none }) rfl (fun K hK => ?_) AllReadyH.nil
            go_simp
            (go_at_call 25; go_fit (implInsert_any (pickF X (kp k n)) (pickF A' (kp k n)) g n1 c B0 b6 q hn1 hqn hnc xp (A' k) z _ (unhide SGd) (unhide RZ) (by have := unhide lz; have := unhide lg6; omega)); rintro r I18 ⟨rfl, hr, gr⟩)
            rw [hn1n] at hr ⊢
            replace R1 := hide ((gr.block b1 (heap_lt (unhide R1)) (fun e => unhide hg1 (Option.some.inj e))).trans (unhide R1))
            replace R4 := hide ((gr.block b4 (heap_lt (unhide R4)) (fun e => unhide hg4 (Option.some.inj e))).trans (unhide R4))
            replace R6 := hide ((gr.block b6 (heap_lt (unhide R6)) (fun e => unhide hg6 (Option.some.inj e))).trans (unhide R6))
            replace R13 := hide ((gr.block b13 (heap_lt (unhide R13)) (fun e => unhide hg13 (Option.some.inj e))).trans (unhide R13))
            replace HB := hide ((unhide HB).grown gr (unhide HB).size (fun k hk => by cases hk; have := unhide lR; have := unhide hg0; omega))
            replace LS := hide ((unhide LS).kept gr)
            replace lT := hide (Nat.le_trans (unhide lT) gr.size)
            replace hr := hide hr
            clear gr SGd RZ
            refine hK.out _ _ ?_ (fun hHeld => ?_)
            · exact unhide R13
            clear hK K
            try simp only [Act.put, List.setIfInBounds_toArray, List.set_cons_zero, List.set_cons_succ]
            refine wpAnyH_take (i := 9) (oi := { dst := some 49, op := Op.fieldAddr 26 (Operand.tmp 10) 0, type := 0, pos := "l16_change.go:54", after := #[{ on := 0, ground := Ground.phase }, { on := 1, ground := Ground.phase }, { on := 2, ground := Ground.phase }, { on := 3, ground := Ground.phase }, { on := 4, ground := Ground.phase }, { on := 5, ground := Ground.phase }, { on := 6, ground := Ground.phase }, { on := 7, ground := Ground.phase }, { on := 8, ground := Ground.phase }], guard := none }) (v := ?_) rfl (by kernel_rfl) (by kernel_rfl) (by kernel_rfl) (fun _ _ _ h => h) (Or.inl ⟨by rfl, ?_⟩) (by assumption) ?_
            rotate_left
            · intro w hSw; (try dsimp only at hSw); go_simp <;> with_reducible rfl
            try simp only [Act.put, List.setIfInBounds_toArray, List.set_cons_zero, List.set_cons_succ]
            refine wpAnyH_ready (rs := [10]) (by kernel_rfl) (by simp) ?_
            refine AllReadyH.cons (o := { dst := none, op := Op.store 24 (Operand.tmp 49) (Operand.tmp 48), type := 0, pos := "l16_change.go:54", after := #[{ on := 9, ground := Ground.data }, { on := 8, ground := Ground.data }, { on := 8, ground := Ground.chain }, { on := 0, ground := Ground.phase }, { on := 1, ground := Ground.phase }, { on := 2, ground := Ground.phase }, { on := 3, ground := Ground.phase }, { on := 4, ground := Ground.phase }, { on := 5, ground := Ground.phase }, { on := 6, ground := Ground.phase }, { on := 7, ground := Ground.phase }, { on := 8, ground := Ground.phase }], guard := none }) rfl (fun K hK => ?_) AllReadyH.nil
            have cb := row1 (unhide R6)
            have fb := frozen_of_row I18 b6 0 _ _ (unhide R6)
            go_simp
            have SGf := hide (show SG (I18.setCell ⟨b6, 0, none⟩ (.slice (some ⟨g, 0, none⟩) n c)) B0 (I18.setCell ⟨b6, 0, none⟩ (.slice (some ⟨g, 0, none⟩) n c)).heap.size (some ⟨g, 0, none⟩) n c (pickF (upd X k xp) (insQ k n q)) (pickF A' (insQ k n q)) by have h := (unhide LS).place (par := par) hk (unhide lT) (by rw [unhide hxp]; exact unhide hr) hq; rw [unhide hxp] at h; have h2 := h.setk (j := 0) (v := .slice (some ⟨g, 0, none⟩) n c) (unhide R6); simpa [World.setCell] using h2)
            have R6x := hide (show (I18.setCell ⟨b6, 0, none⟩ (.slice (some ⟨g, 0, none⟩) n c)).heap[b6]? = some (.cells #[.slice (some ⟨g, 0, none⟩) n c] 26 (0, 0)) by have := setC (v := .slice (some ⟨g, 0, none⟩) n c) (j := 0) (unhide R6); simpa using this)
            replace R1 := hide (setc_other (b := b6) (j := 0) (v := .slice (some ⟨g, 0, none⟩) n c) (by have := unhide lR; have := unhide l13; omega) (unhide R1))
            replace R4 := hide (setc_other (b := b6) (j := 0) (v := .slice (some ⟨g, 0, none⟩) n c) (by have := unhide lR; have := unhide l13; omega) (unhide R4))
            replace R13 := hide (setc_other (b := b6) (j := 0) (v := .slice (some ⟨g, 0, none⟩) n c) (by have := unhide lR; have := unhide l13; omega) (unhide R13))
            replace HB := hide ((unhide HB).setCell (p := ⟨b6, 0, none⟩) (by have := unhide lR; dsimp only; omega) (.slice (some ⟨g, 0, none⟩) n c))
            clear cb fb R6 LS hr lT
            have R6 := R6x
            clear R6x
            generalize (I18.setCell ⟨b6, 0, none⟩ (.slice (some ⟨g, 0, none⟩) n c)) = WL at R1 R4 R6 R13 HB SGf ⊢
            refine hK.out _ _ ?_ (fun hHeld => ?_)
            · exact unhide R13
            clear hK K
            try simp only [Act.put, List.setIfInBounds_toArray, List.set_cons_zero, List.set_cons_succ]
            refine wpAnyH_done (by kernel_rfl) ?_ _
            go_wp2_with fail
            go_meet
            exact ⟨_, rfl, R1, R4, R6, HB, SGf⟩
          refine AllReadyH.cons (o := { dst := some 47, op := Op.buildSlice 24 1 #[(0, Operand.tmp 46)], type := 24, pos := "l16_change.go:54", after := #[{ on := 6, ground := Ground.data }], guard := none }) rfl (fun K hK => ?_) ?_
          · refine step_build_node rfl _ rfl xp (A' k) rfl ?_
            have RZ := hide (new_row I16 (.cells (ndC xp (A' k)) 47))
            have lz := hide (show b6 ≤ I16.heap.size from unhide lT)
            have ba := hide (al1_below I16 (.cells (ndC xp (A' k)) 47))
            replace R1 := hide (row_next (unhide ba) (unhide R1))
            replace R4 := hide (row_next (unhide ba) (unhide R4))
            replace R6 := hide (row_next (unhide ba) (unhide R6))
            replace R13 := hide (row_next (unhide ba) (unhide R13))
            replace HB := hide (below_two (unhide HB) (unhide ba))
            replace LS := hide ((unhide LS).next (unhide ba))
            replace SGd := hide ((unhide SGd).next (unhide ba))
            replace lT := hide (Nat.le_trans (unhide lT) ((unhide ba)).size)
            clear ba
            generalize I16.alloc (.cells (ndC xp (A' k)) 47) = I19 at R1 R4 R6 R13 RZ HB LS SGd lT ⊢
            generalize I16.heap.size = z at RZ lz ⊢
            refine hK.out _ _ ?_ (fun hHeld => ?_)
            · exact unhide R13
            clear hK K
            try simp only [Act.put, List.setIfInBounds_toArray, List.set_cons_zero, List.set_cons_succ]
            refine wpAnyH_ready (rs := [1]) (by kernel_rfl) (by simp) ?_
            refine AllReadyH.cons (o := { dst := some 41, op := Op.load 24 (Operand.tmp 40), type := 24, pos := "l16_change.go:54", after := #[{ on := 0, ground := Ground.data }], guard := none }) rfl (fun K hK => ?_) AllReadyH.nil
            have cb := row1 (unhide R6)
            go_simp
            refine hK.out _ _ ?_ (fun hHeld => ?_)
            · exact unhide R13
            clear hK K
            try simp only [Act.put, List.setIfInBounds_toArray, List.set_cons_zero, List.set_cons_succ]
            clear cb
            refine wpAnyH_ready (rs := [8]) (by kernel_rfl) (by simp) ?_
            refine AllReadyH.cons (o := { dst := some 48, op := Op.call { callee := Callee.value (Operand.func 25), args := #[Operand.tmp 41, Operand.tmp 45, Operand.tmp 47], argTypes := #[24, 3, 24] }, type := 24, pos := "l16_change.go:54", after := #[{ on := 1, ground := Ground.data }, { on := 5, ground := Ground.data }, { on := 7, ground := Ground.data }, { on := 4, ground := Ground.chain }], guard := none }) rfl (fun K hK => ?_) AllReadyH.nil
            go_simp
            (go_at_call 25; go_fit (implInsert_any (pickF X (kp k n)) (pickF A' (kp k n)) g n1 c B0 b6 q hn1 hqn hnc xp (A' k) z _ (unhide SGd) (unhide RZ) (by have := unhide lz; have := unhide lg6; omega)); rintro r I20 ⟨rfl, hr, gr⟩)
            rw [hn1n] at hr ⊢
            replace R1 := hide ((gr.block b1 (heap_lt (unhide R1)) (fun e => unhide hg1 (Option.some.inj e))).trans (unhide R1))
            replace R4 := hide ((gr.block b4 (heap_lt (unhide R4)) (fun e => unhide hg4 (Option.some.inj e))).trans (unhide R4))
            replace R6 := hide ((gr.block b6 (heap_lt (unhide R6)) (fun e => unhide hg6 (Option.some.inj e))).trans (unhide R6))
            replace R13 := hide ((gr.block b13 (heap_lt (unhide R13)) (fun e => unhide hg13 (Option.some.inj e))).trans (unhide R13))
            replace HB := hide ((unhide HB).grown gr (unhide HB).size (fun k hk => by cases hk; have := unhide lR; have := unhide hg0; omega))
            replace LS := hide ((unhide LS).kept gr)
            replace lT := hide (Nat.le_trans (unhide lT) gr.size)
            replace hr := hide hr
            clear gr SGd RZ
            refine hK.out _ _ ?_ (fun hHeld => ?_)
            · exact unhide R13
            clear hK K
            try simp only [Act.put, List.setIfInBounds_toArray, List.set_cons_zero, List.set_cons_succ]
            refine wpAnyH_take (i := 9) (oi := { dst := some 49, op := Op.fieldAddr 26 (Operand.tmp 10) 0, type := 0, pos := "l16_change.go:54", after := #[{ on := 0, ground := Ground.phase }, { on := 1, ground := Ground.phase }, { on := 2, ground := Ground.phase }, { on := 3, ground := Ground.phase }, { on := 4, ground := Ground.phase }, { on := 5, ground := Ground.phase }, { on := 6, ground := Ground.phase }, { on := 7, ground := Ground.phase }, { on := 8, ground := Ground.phase }], guard := none }) (v := ?_) rfl (by kernel_rfl) (by kernel_rfl) (by kernel_rfl) (fun _ _ _ h => h) (Or.inl ⟨by rfl, ?_⟩) (by assumption) ?_
            rotate_left
            · intro w hSw; (try dsimp only at hSw); go_simp <;> with_reducible rfl
            try simp only [Act.put, List.setIfInBounds_toArray, List.set_cons_zero, List.set_cons_succ]
            refine wpAnyH_ready (rs := [10]) (by kernel_rfl) (by simp) ?_
            refine AllReadyH.cons (o := { dst := none, op := Op.store 24 (Operand.tmp 49) (Operand.tmp 48), type := 0, pos := "l16_change.go:54", after := #[{ on := 9, ground := Ground.data }, { on := 8, ground := Ground.data }, { on := 8, ground := Ground.chain }, { on := 0, ground := Ground.phase }, { on := 1, ground := Ground.phase }, { on := 2, ground := Ground.phase }, { on := 3, ground := Ground.phase }, { on := 4, ground := Ground.phase }, { on := 5, ground := Ground.phase }, { on := 6, ground := Ground.phase }, { on := 7, ground := Ground.phase }, { on := 8, ground := Ground.phase }], guard := none }) rfl (fun K hK => ?_) AllReadyH.nil
            have cb := row1 (unhide R6)
            have fb := frozen_of_row I20 b6 0 _ _ (unhide R6)
            go_simp
            have SGf := hide (show SG (I20.setCell ⟨b6, 0, none⟩ (.slice (some ⟨g, 0, none⟩) n c)) B0 (I20.setCell ⟨b6, 0, none⟩ (.slice (some ⟨g, 0, none⟩) n c)).heap.size (some ⟨g, 0, none⟩) n c (pickF (upd X k xp) (insQ k n q)) (pickF A' (insQ k n q)) by have h := (unhide LS).place (par := par) hk (unhide lT) (by rw [unhide hxp]; exact unhide hr) hq; rw [unhide hxp] at h; have h2 := h.setk (j := 0) (v := .slice (some ⟨g, 0, none⟩) n c) (unhide R6); simpa [World.setCell] using h2)
            have R6x := hide (show (I20.setCell ⟨b6, 0, none⟩ (.slice (some ⟨g, 0, none⟩) n c)).heap[b6]? = some (.cells #[.slice (some ⟨g, 0, none⟩) n c] 26 (0, 0)) by have := setC (v := .slice (some ⟨g, 0, none⟩) n c) (j := 0) (unhide R6); simpa using this)
            replace R1 := hide (setc_other (b := b6) (j := 0) (v := .slice (some ⟨g, 0, none⟩) n c) (by have := unhide lR; have := unhide l13; omega) (unhide R1))
            replace R4 := hide (setc_other (b := b6) (j := 0) (v := .slice (some ⟨g, 0, none⟩) n c) (by have := unhide lR; have := unhide l13; omega) (unhide R4))
            replace R13 := hide (setc_other (b := b6) (j := 0) (v := .slice (some ⟨g, 0, none⟩) n c) (by have := unhide lR; have := unhide l13; omega) (unhide R13))
            replace HB := hide ((unhide HB).setCell (p := ⟨b6, 0, none⟩) (by have := unhide lR; dsimp only; omega) (.slice (some ⟨g, 0, none⟩) n c))
            clear cb fb R6 LS hr lT
            have R6 := R6x
            clear R6x
            generalize (I20.setCell ⟨b6, 0, none⟩ (.slice (some ⟨g, 0, none⟩) n c)) = WL at R1 R4 R6 R13 HB SGf ⊢
            refine hK.out _ _ ?_ (fun hHeld => ?_)
            · exact unhide R13
            clear hK K
            try simp only [Act.put, List.setIfInBounds_toArray, List.set_cons_zero, List.set_cons_succ]
            refine wpAnyH_done (by kernel_rfl) ?_ _
            go_wp2_with fail
            go_meet
            exact ⟨_, rfl, R1, R4, R6, HB, SGf⟩
          exact AllReadyH.nil
        refine AllReadyH.cons (o := { dst := some 47, op := Op.buildSlice 24 1 #[(0, Operand.tmp 46)], type := 24, pos := "l16_change.go:54", after := #[{ on := 6, ground := Ground.data }], guard := none }) rfl (fun K hK => ?_) ?_
        · refine step_build_node rfl _ rfl xp (A' k) rfl ?_
          have RZ := hide (new_row I0 (.cells (ndC xp (A' k)) 47))
          have lz := hide (show b6 ≤ I0.heap.size from unhide lT)
          have ba := hide (al1_below I0 (.cells (ndC xp (A' k)) 47))
          replace R1 := hide (row_next (unhide ba) (unhide R1))
          replace R4 := hide (row_next (unhide ba) (unhide R4))
          replace R6 := hide (row_next (unhide ba) (unhide R6))
          replace R13 := hide (row_next (unhide ba) (unhide R13))
          replace HB := hide (below_two (unhide HB) (unhide ba))
          replace LS := hide ((unhide LS).next (unhide ba))
          replace SGd := hide ((unhide SGd).next (unhide ba))
          replace lT := hide (Nat.le_trans (unhide lT) ((unhide ba)).size)
          clear ba
          generalize I0.alloc (.cells (ndC xp (A' k)) 47) = I21 at R1 R4 R6 R13 RZ HB LS SGd lT ⊢
          generalize I0.heap.size = z at RZ lz ⊢
          refine hK.out _ _ ?_ (fun hHeld => ?_)
          · exact unhide R13
          clear hK K
          try simp only [Act.put, List.setIfInBounds_toArray, List.set_cons_zero, List.set_cons_succ]
          refine wpAnyH_ready (rs := [1, 4]) (by kernel_rfl) (by simp) ?_
          refine AllReadyH.cons (o := { dst := some 41, op := Op.load 24 (Operand.tmp 40), type := 24, pos := "l16_change.go:54", after := #[{ on := 0, ground := Ground.data }], guard := none }) rfl (fun K hK => ?_) ?_
          · have cb := row1 (unhide R6)
            go_simp
            refine hK.out _ _ ?_ (fun hHeld => ?_)
            · exact unhide R13
            clear hK K
            try simp only [Act.put, List.setIfInBounds_toArray, List.set_cons_zero, List.set_cons_succ]
            clear cb
            refine wpAnyH_ready (rs := [4]) (by kernel_rfl) (by simp) ?_
            refine AllReadyH.cons (o := { dst := some 44, op := Op.call { callee := Callee.value (Operand.func 10), args := #[Operand.tmp 42, Operand.tmp 43], argTypes := #[26, 3] }, type := 3, pos := "l16_change.go:54", after := #[{ on := 2, ground := Ground.data }, { on := 3, ground := Ground.data }], guard := none }) rfl (fun K hK => ?_) AllReadyH.nil
            go_simp
            (go_at_call 10; go_fit (implNodeAt_any (pickF X (kp k n)) (pickF A' (kp k n)) (some ⟨g, 0, none⟩) n1 c hn1 beh _ (unhide SGd).nodes); rintro r I22 ⟨rfl, hb⟩)
            rw [unhide hZq]
            replace R1 := hide (row_next hb (unhide R1))
            replace R4 := hide (row_next hb (unhide R4))
            replace R6 := hide (row_next hb (unhide R6))
            replace R13 := hide (row_next hb (unhide R13))
            replace RZ := hide (row_next hb (unhide RZ))
            replace HB := hide (below_two (unhide HB) hb)
            replace LS := hide ((unhide LS).next hb)
            replace SGd := hide ((unhide SGd).next hb)
            replace lT := hide (Nat.le_trans (unhide lT) (hb).size)
            clear hb
            refine hK.out _ _ ?_ (fun hHeld => ?_)
            · exact unhide R13
            clear hK K
            try simp only [Act.put, List.setIfInBounds_toArray, List.set_cons_zero, List.set_cons_succ]
            refine wpAnyH_take (i := 5) (oi := { dst := some 45, op := Op.binOp BinOp.add 3 (Operand.tmp 44) (Operand.const (Value.int IntKind.i64 1)) 3, type := 3, pos := "l16_change.go:54", after := #[{ on := 4, ground := Ground.data }], guard := none }) (v := ?_) rfl (by kernel_rfl) (by kernel_rfl) (by kernel_rfl) (fun _ _ _ h => h) (Or.inl ⟨by rfl, ?_⟩) (by assumption) ?_
            rotate_left
            · intro w hSw; (try dsimp only at hSw); go_simp <;> with_reducible rfl
            try simp only [Act.put, List.setIfInBounds_toArray, List.set_cons_zero, List.set_cons_succ]
            refine wpAnyH_ready (rs := [8]) (by kernel_rfl) (by simp) ?_
            refine AllReadyH.cons (o := { dst := some 48, op := Op.call { callee := Callee.value (Operand.func 25), args := #[Operand.tmp 41, Operand.tmp 45, Operand.tmp 47], argTypes := #[24, 3, 24] }, type := 24, pos := "l16_change.go:54", after := #[{ on := 1, ground := Ground.data }, { on := 5, ground := Ground.data }, { on := 7, ground := Ground.data }, { on := 4, ground := Ground.chain }], guard := none }) rfl (fun K hK => ?_) AllReadyH.nil
            go_simp
            (go_at_call 25; go_fit (implInsert_any (pickF X (kp k n)) (pickF A' (kp k n)) g n1 c B0 b6 q hn1 hqn hnc xp (A' k) z _ (unhide SGd) (unhide RZ) (by have := unhide lz; have := unhide lg6; omega)); rintro r I23 ⟨rfl, hr, gr⟩)
            rw [hn1n] at hr ⊢
            replace R1 := hide ((gr.block b1 (heap_lt (unhide R1)) (fun e => unhide hg1 (Option.some.inj e))).trans (unhide R1))
            replace R4 := hide ((gr.block b4 (heap_lt (unhide R4)) (fun e => unhide hg4 (Option.some.inj e))).trans (unhide R4))
            replace R6 := hide ((gr.block b6 (heap_lt (unhide R6)) (fun e => unhide hg6 (Option.some.inj e))).trans (unhide R6))
            replace R13 := hide ((gr.block b13 (heap_lt (unhide R13)) (fun e => unhide hg13 (Option.some.inj e))).trans (unhide R13))
            replace HB := hide ((unhide HB).grown gr (unhide HB).size (fun k hk => by cases hk; have := unhide lR; have := unhide hg0; omega))
            replace LS := hide ((unhide LS).kept gr)
            replace lT := hide (Nat.le_trans (unhide lT) gr.size)
            replace hr := hide hr
            clear gr SGd RZ
            refine hK.out _ _ ?_ (fun hHeld => ?_)
            · exact unhide R13
            clear hK K
            try simp only [Act.put, List.setIfInBounds_toArray, List.set_cons_zero, List.set_cons_succ]
            refine wpAnyH_take (i := 9) (oi := { dst := some 49, op := Op.fieldAddr 26 (Operand.tmp 10) 0, type := 0, pos := "l16_change.go:54", after := #[{ on := 0, ground := Ground.phase }, { on := 1, ground := Ground.phase }, { on := 2, ground := Ground.phase }, { on := 3, ground := Ground.phase }, { on := 4, ground := Ground.phase }, { on := 5, ground := Ground.phase }, { on := 6, ground := Ground.phase }, { on := 7, ground := Ground.phase }, { on := 8, ground := Ground.phase }], guard := none }) (v := ?_) rfl (by kernel_rfl) (by kernel_rfl) (by kernel_rfl) (fun _ _ _ h => h) (Or.inl ⟨by rfl, ?_⟩) (by assumption) ?_
            rotate_left
            · intro w hSw; (try dsimp only at hSw); go_simp <;> with_reducible rfl
            try simp only [Act.put, List.setIfInBounds_toArray, List.set_cons_zero, List.set_cons_succ]
            refine wpAnyH_ready (rs := [10]) (by kernel_rfl) (by simp) ?_
            refine AllReadyH.cons (o := { dst := none, op := Op.store 24 (Operand.tmp 49) (Operand.tmp 48), type := 0, pos := "l16_change.go:54", after := #[{ on := 9, ground := Ground.data }, { on := 8, ground := Ground.data }, { on := 8, ground := Ground.chain }, { on := 0, ground := Ground.phase }, { on := 1, ground := Ground.phase }, { on := 2, ground := Ground.phase }, { on := 3, ground := Ground.phase }, { on := 4, ground := Ground.phase }, { on := 5, ground := Ground.phase }, { on := 6, ground := Ground.phase }, { on := 7, ground := Ground.phase }, { on := 8, ground := Ground.phase }], guard := none }) rfl (fun K hK => ?_) AllReadyH.nil
            have cb := row1 (unhide R6)
            have fb := frozen_of_row I23 b6 0 _ _ (unhide R6)
            go_simp
            have SGf := hide (show SG (I23.setCell ⟨b6, 0, none⟩ (.slice (some ⟨g, 0, none⟩) n c)) B0 (I23.setCell ⟨b6, 0, none⟩ (.slice (some ⟨g, 0, none⟩) n c)).heap.size (some ⟨g, 0, none⟩) n c (pickF (upd X k xp) (insQ k n q)) (pickF A' (insQ k n q)) by have h := (unhide LS).place (par := par) hk (unhide lT) (by rw [unhide hxp]; exact unhide hr) hq; rw [unhide hxp] at h; have h2 := h.setk (j := 0) (v := .slice (some ⟨g, 0, none⟩) n c) (unhide R6); simpa [World.setCell] using h2)
            have R6x := hide (show (I23.setCell ⟨b6, 0, none⟩ (.slice (some ⟨g, 0, none⟩) n c)).heap[b6]? = some (.cells #[.slice (some ⟨g, 0, none⟩) n c] 26 (0, 0)) by have := setC (v := .slice (some ⟨g, 0, none⟩) n c) (j := 0) (unhide R6); simpa using this)
            replace R1 := hide (setc_other (b := b6) (j := 0) (v := .slice (some ⟨g, 0, none⟩) n c) (by have := unhide lR; have := unhide l13; omega) (unhide R1))
            replace R4 := hide (setc_other (b := b6) (j := 0) (v := .slice (some ⟨g, 0, none⟩) n c) (by have := unhide lR; have := unhide l13; omega) (unhide R4))
            replace R13 := hide (setc_other (b := b6) (j := 0) (v := .slice (some ⟨g, 0, none⟩) n c) (by have := unhide lR; have := unhide l13; omega) (unhide R13))
            replace HB := hide ((unhide HB).setCell (p := ⟨b6, 0, none⟩) (by have := unhide lR; dsimp only; omega) (.slice (some ⟨g, 0, none⟩) n c))
            clear cb fb R6 LS hr lT
            have R6 := R6x
            clear R6x
            generalize (I23.setCell ⟨b6, 0, none⟩ (.slice (some ⟨g, 0, none⟩) n c)) = WL at R1 R4 R6 R13 HB SGf ⊢
            refine hK.out _ _ ?_ (fun hHeld => ?_)
            · exact unhide R13
            clear hK K
            try simp only [Act.put, List.setIfInBounds_toArray, List.set_cons_zero, List.set_cons_succ]
            refine wpAnyH_done (by kernel_rfl) ?_ _
            go_wp2_with fail
            go_meet
            exact ⟨_, rfl, R1, R4, R6, HB, SGf⟩
          refine AllReadyH.cons (o := { dst := some 44, op := Op.call { callee := Callee.value (Operand.func 10), args := #[Operand.tmp 42, Operand.tmp 43], argTypes := #[26, 3] }, type := 3, pos := "l16_change.go:54", after := #[{ on := 2, ground := Ground.data }, { on := 3, ground := Ground.data }], guard := none }) rfl (fun K hK => ?_) ?_
          · go_simp
            (go_at_call 10; go_fit (implNodeAt_any (pickF X (kp k n)) (pickF A' (kp k n)) (some ⟨g, 0, none⟩) n1 c hn1 beh _ (unhide SGd).nodes); rintro r I24 ⟨rfl, hb⟩)
            rw [unhide hZq]
            replace R1 := hide (row_next hb (unhide R1))
            replace R4 := hide (row_next hb (unhide R4))
            replace R6 := hide (row_next hb (unhide R6))
            replace R13 := hide (row_next hb (unhide R13))
            replace RZ := hide (row_next hb (unhide RZ))
            replace HB := hide (below_two (unhide HB) hb)
            replace LS := hide ((unhide LS).next hb)
            replace SGd := hide ((unhide SGd).next hb)
            replace lT := hide (Nat.le_trans (unhide lT) (hb).size)
            clear hb
            refine hK.out _ _ ?_ (fun hHeld => ?_)
            · exact unhide R13
            clear hK K
            try simp only [Act.put, List.setIfInBounds_toArray, List.set_cons_zero, List.set_cons_succ]
            refine wpAnyH_take (i := 5) (oi := { dst := some 45, op := Op.binOp BinOp.add 3 (Operand.tmp 44) (Operand.const (Value.int IntKind.i64 1)) 3, type := 3, pos := "l16_change.go:54", after := #[{ on := 4, ground := Ground.data }], guard := none }) (v := ?_) rfl (by kernel_rfl) (by kernel_rfl) (by kernel_rfl) (fun _ _ _ h => h) (Or.inl ⟨by rfl, ?_⟩) (by assumption) ?_
            rotate_left
            · intro w hSw; (try dsimp only at hSw); go_simp <;> with_reducible rfl
            try simp only [Act.put, List.setIfInBounds_toArray, List.set_cons_zero, List.set_cons_succ]
            refine wpAnyH_ready (rs := [1]) (by kernel_rfl) (by simp) ?_
            refine AllReadyH.cons (o := { dst := some 41, op := Op.load 24 (Operand.tmp 40), type := 24, pos := "l16_change.go:54", after := #[{ on := 0, ground := Ground.data }], guard := none }) rfl (fun K hK => ?_) AllReadyH.nil
            have cb := row1 (unhide R6)
            go_simp
            refine hK.out _ _ ?_ (fun hHeld => ?_)
            · exact unhide R13
            clear hK K
            try simp only [Act.put, List.setIfInBounds_toArray, List.set_cons_zero, List.set_cons_succ]
            clear cb
            refine wpAnyH_ready (rs := [8]) (by kernel_rfl) (by simp) ?_
            refine AllReadyH.cons (o := { dst := some 48, op := Op.call { callee := Callee.value (Operand.func 25), args := #[Operand.tmp 41, Operand.tmp 45, Operand.tmp 47], argTypes := #[24, 3, 24] }, type := 24, pos := "l16_change.go:54", after := #[{ on := 1, ground := Ground.data }, { on := 5, ground := Ground.data }, { on := 7, ground := Ground.data }, { on := 4, ground := Ground.chain }], guard := none }) rfl (fun K hK => ?_) AllReadyH.nil
            go_simp
            (go_at_call 25; go_fit (implInsert_any (pickF X (kp k n)) (pickF A' (kp k n)) g n1 c B0 b6 q hn1 hqn hnc xp (A' k) z _ (unhide SGd) (unhide RZ) (by have := unhide lz; have := unhide lg6; omega)); rintro r I25 ⟨rfl, hr, gr⟩)
            rw [hn1n] at hr ⊢
            replace R1 := hide ((gr.block b1 (heap_lt (unhide R1)) (fun e => unhide hg1 (Option.some.inj e))).trans (unhide R1))
            replace R4 := hide ((gr.block b4 (heap_lt (unhide R4)) (fun e => unhide hg4 (Option.some.inj e))).trans (unhide R4))
            replace R6 := hide ((gr.block b6 (heap_lt (unhide R6)) (fun e => unhide hg6 (Option.some.inj e))).trans (unhide R6))
            replace R13 := hide ((gr.block b13 (heap_lt (unhide R13)) (fun e => unhide hg13 (Option.some.inj e))).trans (unhide R13))
            replace HB := hide ((unhide HB).grown gr (unhide HB).size (fun k hk => by cases hk; have := unhide lR; have := unhide hg0; omega))
            replace LS := hide ((unhide LS).kept gr)
            replace lT := hide (Nat.le_trans (unhide lT) gr.size)
            replace hr := hide hr
            clear gr SGd RZ
            refine hK.out _ _ ?_ (fun hHeld => ?_)
            · exact unhide R13
            clear hK K
            try simp only [Act.put, List.setIfInBounds_toArray, List.set_cons_zero, List.set_cons_succ]
            refine wpAnyH_take (i := 9) (oi := { dst := some 49, op := Op.fieldAddr 26 (Operand.tmp 10) 0, type := 0, pos := "l16_change.go:54", after := #[{ on := 0, ground := Ground.phase }, { on := 1, ground := Ground.phase }, { on := 2, ground := Ground.phase }, { on := 3, ground := Ground.phase }, { on := 4, ground := Ground.phase }, { on := 5, ground := Ground.phase }, { on := 6, ground := Ground.phase }, { on := 7, ground := Ground.phase }, { on := 8, ground := Ground.phase }], guard := none }) (v := ?_) rfl (by kernel_rfl) (by kernel_rfl) (by kernel_rfl) (fun _ _ _ h => h) (Or.inl ⟨by rfl, ?_⟩) (by assumption) ?_
            rotate_left
            · intro w hSw; (try dsimp only at hSw); go_simp <;> with_reducible rfl
            try simp only [Act.put, List.setIfInBounds_toArray, List.set_cons_zero, List.set_cons_succ]
            refine wpAnyH_ready (rs := [10]) (by kernel_rfl) (by simp) ?_
            refine AllReadyH.cons (o := { dst := none, op := Op.store 24 (Operand.tmp 49) (Operand.tmp 48), type := 0, pos := "l16_change.go:54", after := #[{ on := 9, ground := Ground.data }, { on := 8, ground := Ground.data }, { on := 8, ground := Ground.chain }, { on := 0, ground := Ground.phase }, { on := 1, ground := Ground.phase }, { on := 2, ground := Ground.phase }, { on := 3, ground := Ground.phase }, { on := 4, ground := Ground.phase }, { on := 5, ground := Ground.phase }, { on := 6, ground := Ground.phase }, { on := 7, ground := Ground.phase }, { on := 8, ground := Ground.phase }], guard := none }) rfl (fun K hK => ?_) AllReadyH.nil
            have cb := row1 (unhide R6)
            have fb := frozen_of_row I25 b6 0 _ _ (unhide R6)
            go_simp
            have SGf := hide (show SG (I25.setCell ⟨b6, 0, none⟩ (.slice (some ⟨g, 0, none⟩) n c)) B0 (I25.setCell ⟨b6, 0, none⟩ (.slice (some ⟨g, 0, none⟩) n c)).heap.size (some ⟨g, 0, none⟩) n c (pickF (upd X k xp) (insQ k n q)) (pickF A' (insQ k n q)) by have h := (unhide LS).place (par := par) hk (unhide lT) (by rw [unhide hxp]; exact unhide hr) hq; rw [unhide hxp] at h; have h2 := h.setk (j := 0) (v := .slice (some ⟨g, 0, none⟩) n c) (unhide R6); simpa [World.setCell] using h2)
            have R6x := hide (show (I25.setCell ⟨b6, 0, none⟩ (.slice (some ⟨g, 0, none⟩) n c)).heap[b6]? = some (.cells #[.slice (some ⟨g, 0, none⟩) n c] 26 (0, 0)) by have := setC (v := .slice (some ⟨g, 0, none⟩) n c) (j := 0) (unhide R6); simpa using this)
            replace R1 := hide (setc_other (b := b6) (j := 0) (v := .slice (some ⟨g, 0, none⟩) n c) (by have := unhide lR; have := unhide l13; omega) (unhide R1))
            replace R4 := hide (setc_other (b := b6) (j := 0) (v := .slice (some ⟨g, 0, none⟩) n c) (by have := unhide lR; have := unhide l13; omega) (unhide R4))
            replace R13 := hide (setc_other (b := b6) (j := 0) (v := .slice (some ⟨g, 0, none⟩) n c) (by have := unhide lR; have := unhide l13; omega) (unhide R13))
            replace HB := hide ((unhide HB).setCell (p := ⟨b6, 0, none⟩) (by have := unhide lR; dsimp only; omega) (.slice (some ⟨g, 0, none⟩) n c))
            clear cb fb R6 LS hr lT
            have R6 := R6x
            clear R6x
            generalize (I25.setCell ⟨b6, 0, none⟩ (.slice (some ⟨g, 0, none⟩) n c)) = WL at R1 R4 R6 R13 HB SGf ⊢
            refine hK.out _ _ ?_ (fun hHeld => ?_)
            · exact unhide R13
            clear hK K
            try simp only [Act.put, List.setIfInBounds_toArray, List.set_cons_zero, List.set_cons_succ]
            refine wpAnyH_done (by kernel_rfl) ?_ _
            go_wp2_with fail
            go_meet
            exact ⟨_, rfl, R1, R4, R6, HB, SGf⟩
          exact AllReadyH.nil
        exact AllReadyH.nil
      refine AllReadyH.cons (o := { dst := some 47, op := Op.buildSlice 24 1 #[(0, Operand.tmp 46)], type := 24, pos := "l16_change.go:54", after := #[{ on := 6, ground := Ground.data }], guard := none }) rfl (fun K hK => ?_) ?_
      · refine step_build_node rfl _ rfl xp (A' k) rfl ?_
        have RZ := hide (new_row I0 (.cells (ndC xp (A' k)) 47))
        have lz := hide (show b6 ≤ I0.heap.size from unhide lT)
        have ba := hide (al1_below I0 (.cells (ndC xp (A' k)) 47))
        replace R1 := hide (row_next (unhide ba) (unhide R1))
        replace R4 := hide (row_next (unhide ba) (unhide R4))
        replace R6 := hide (row_next (unhide ba) (unhide R6))
        replace R13 := hide (row_next (unhide ba) (unhide R13))
        replace HB := hide (below_two (unhide HB) (unhide ba))
        replace LS := hide ((unhide LS).next (unhide ba))
        replace SGd := hide ((unhide SGd).next (unhide ba))
        replace lT := hide (Nat.le_trans (unhide lT) ((unhide ba)).size)
        clear ba
        generalize I0.alloc (.cells (ndC xp (A' k)) 47) = I26 at R1 R4 R6 R13 RZ HB LS SGd lT ⊢
        generalize I0.heap.size = z at RZ lz ⊢
        refine hK.out _ _ ?_ (fun hHeld => ?_)
        · exact unhide R13
        clear hK K
        try simp only [Act.put, List.setIfInBounds_toArray, List.set_cons_zero, List.set_cons_succ]
        refine wpAnyH_ready (rs := [1, 2]) (by kernel_rfl) (by simp) ?_
        refine AllReadyH.cons (o := { dst := some 41, op := Op.load 24 (Operand.tmp 40), type := 24, pos := "l16_change.go:54", after := #[{ on := 0, ground := Ground.data }], guard := none }) rfl (fun K hK => ?_) ?_
        · have cb := row1 (unhide R6)
          go_simp
          refine hK.out _ _ ?_ (fun hHeld => ?_)
          · exact unhide R13
          clear hK K
          try simp only [Act.put, List.setIfInBounds_toArray, List.set_cons_zero, List.set_cons_succ]
          clear cb
          refine wpAnyH_ready (rs := [2]) (by kernel_rfl) (by simp) ?_
          refine AllReadyH.cons (o := { dst := some 42, op := Op.load 26 (Operand.tmp 10), type := 26, pos := "l16_change.go:54", after := #[], guard := none }) rfl (fun K hK => ?_) AllReadyH.nil
          have cb := row1 (unhide R6)
          go_simp
          refine hK.out _ _ ?_ (fun hHeld => ?_)
          · exact unhide R13
          clear hK K
          try simp only [Act.put, List.setIfInBounds_toArray, List.set_cons_zero, List.set_cons_succ]
          clear cb
          refine wpAnyH_ready (rs := [4]) (by kernel_rfl) (by simp) ?_
          refine AllReadyH.cons (o := { dst := some 44, op := Op.call { callee := Callee.value (Operand.func 10), args := #[Operand.tmp 42, Operand.tmp 43], argTypes := #[26, 3] }, type := 3, pos := "l16_change.go:54", after := #[{ on := 2, ground := Ground.data }, { on := 3, ground := Ground.data }], guard := none }) rfl (fun K hK => ?_) AllReadyH.nil
          go_simp
          (go_at_call 10; go_fit (implNodeAt_any (pickF X (kp k n)) (pickF A' (kp k n)) (some ⟨g, 0, none⟩) n1 c hn1 beh _ (unhide SGd).nodes); rintro r I27 ⟨rfl, hb⟩)
          rw [unhide hZq]
          replace R1 := hide (row_next hb (unhide R1))
          replace R4 := hide (row_next hb (unhide R4))
          replace R6 := hide (row_next hb (unhide R6))
          replace R13 := hide (row_next hb (unhide R13))
          replace RZ := hide (row_next hb (unhide RZ))
          replace HB := hide (below_two (unhide HB) hb)
          replace LS := hide ((unhide LS).next hb)
          replace SGd := hide ((unhide SGd).next hb)
          replace lT := hide (Nat.le_trans (unhide lT) (hb).size)
          clear hb
          refine hK.out _ _ ?_ (fun hHeld => ?_)
          · exact unhide R13
          clear hK K
          try simp only [Act.put, List.setIfInBounds_toArray, List.set_cons_zero, List.set_cons_succ]
          refine wpAnyH_take (i := 5) (oi := { dst := some 45, op := Op.binOp BinOp.add 3 (Operand.tmp 44) (Operand.const (Value.int IntKind.i64 1)) 3, type := 3, pos := "l16_change.go:54", after := #[{ on := 4, ground := Ground.data }], guard := none }) (v := ?_) rfl (by kernel_rfl) (by kernel_rfl) (by kernel_rfl) (fun _ _ _ h => h) (Or.inl ⟨by rfl, ?_⟩) (by assumption) ?_
          rotate_left
          · intro w hSw; (try dsimp only at hSw); go_simp <;> with_reducible rfl
          try simp only [Act.put, List.setIfInBounds_toArray, List.set_cons_zero, List.set_cons_succ]
          refine wpAnyH_ready (rs := [8]) (by kernel_rfl) (by simp) ?_
          refine AllReadyH.cons (o := { dst := some 48, op := Op.call { callee := Callee.value (Operand.func 25), args := #[Operand.tmp 41, Operand.tmp 45, Operand.tmp 47], argTypes := #[24, 3, 24] }, type := 24, pos := "l16_change.go:54", after := #[{ on := 1, ground := Ground.data }, { on := 5, ground := Ground.data }, { on := 7, ground := Ground.data }, { on := 4, ground := Ground.chain }], guard := none }) rfl (fun K hK => ?_) AllReadyH.nil
          go_simp
          (go_at_call 25; go_fit (implInsert_any (pickF X (kp k n)) (pickF A' (kp k n)) g n1 c B0 b6 q hn1 hqn hnc xp (A' k) z _ (unhide SGd) (unhide RZ) (by have := unhide lz; have := unhide lg6; omega)); rintro r I28 ⟨rfl, hr, gr⟩)
          rw [hn1n] at hr ⊢
          replace R1 := hide ((gr.block b1 (heap_lt (unhide R1)) (fun e => unhide hg1 (Option.some.inj e))).trans (unhide R1))
          replace R4 := hide ((gr.block b4 (heap_lt (unhide R4)) (fun e => unhide hg4 (Option.some.inj e))).trans (unhide R4))
          replace R6 := hide ((gr.block b6 (heap_lt (unhide R6)) (fun e => unhide hg6 (Option.some.inj e))).trans (unhide R6))
          replace R13 := hide ((gr.block b13 (heap_lt (unhide R13)) (fun e => unhide hg13 (Option.some.inj e))).trans (unhide R13))
          replace HB := hide ((unhide HB).grown gr (unhide HB).size (fun k hk => by cases hk; have := unhide lR; have := unhide hg0; omega))
          replace LS := hide ((unhide LS).kept gr)
          replace lT := hide (Nat.le_trans (unhide lT) gr.size)
          replace hr := hide hr
          clear gr SGd RZ
          refine hK.out _ _ ?_ (fun hHeld => ?_)
          · exact unhide R13
          clear hK K
          try simp only [Act.put, List.setIfInBounds_toArray, List.set_cons_zero, List.set_cons_succ]
          refine wpAnyH_take (i := 9) (oi := { dst := some 49, op := Op.fieldAddr 26 (Operand.tmp 10) 0, type := 0, pos := "l16_change.go:54", after := #[{ on := 0, ground := Ground.phase }, { on := 1, ground := Ground.phase }, { on := 2, ground := Ground.phase }, { on := 3, ground := Ground.phase }, { on := 4, ground := Ground.phase }, { on := 5, ground := Ground.phase }, { on := 6, ground := Ground.phase }, { on := 7, ground := Ground.phase }, { on := 8, ground := Ground.phase }], guard := none }) (v := ?_) rfl (by kernel_rfl) (by kernel_rfl) (by kernel_rfl) (fun _ _ _ h => h) (Or.inl ⟨by rfl, ?_⟩) (by assumption) ?_
          rotate_left
          · intro w hSw; (try dsimp only at hSw); go_simp <;> with_reducible rfl
          try simp only [Act.put, List.setIfInBounds_toArray, List.set_cons_zero, List.set_cons_succ]
          refine wpAnyH_ready (rs := [10]) (by kernel_rfl) (by simp) ?_
          refine AllReadyH.cons (o := { dst := none, op := Op.store 24 (Operand.tmp 49) (Operand.tmp 48), type := 0, pos := "l16_change.go:54", after := #[{ on := 9, ground := Ground.data }, { on := 8, ground := Ground.data }, { on := 8, ground := Ground.chain }, { on := 0, ground := Ground.phase }, { on := 1, ground := Ground.phase }, { on := 2, ground := Ground.phase }, { on := 3, ground := Ground.phase }, { on := 4, ground := Ground.phase }, { on := 5, ground := Ground.phase }, { on := 6, ground := Ground.phase }, { on := 7, ground := Ground.phase }, { on := 8, ground := Ground.phase }], guard := none }) rfl (fun K hK => ?_) AllReadyH.nil
          have cb := row1 (unhide R6)
          have fb := frozen_of_row I28 b6 0 _ _ (unhide R6)
          go_simp
          have SGf := hide (show SG (I28.setCell ⟨b6, 0, none⟩ (.slice (some ⟨g, 0, none⟩) n c)) B0 (I28.setCell ⟨b6, 0, none⟩ (.slice (some ⟨g, 0, none⟩) n c)).heap.size (some ⟨g, 0, none⟩) n c (pickF (upd X k xp) (insQ k n q)) (pickF A' (insQ k n q)) by have h := (unhide LS).place (par := par) hk (unhide lT) (by rw [unhide hxp]; exact unhide hr) hq; rw [unhide hxp] at h; have h2 := h.setk (j := 0) (v := .slice (some ⟨g, 0, none⟩) n c) (unhide R6); simpa [World.setCell] using h2)
          have R6x := hide (show (I28.setCell ⟨b6, 0, none⟩ (.slice (some ⟨g, 0, none⟩) n c)).heap[b6]? = some (.cells #[.slice (some ⟨g, 0, none⟩) n c] 26 (0, 0)) by have := setC (v := .slice (some ⟨g, 0, none⟩) n c) (j := 0) (unhide R6); simpa using this)
          replace R1 := hide (setc_other (b := b6) (j := 0) (v := .slice (some ⟨g, 0, none⟩) n c) (by have := unhide lR; have := unhide l13; omega) (unhide R1))
          replace R4 := hide (setc_other (b := b6) (j := 0) (v := .slice (some ⟨g, 0, none⟩) n c) (by have := unhide lR; have := unhide l13; omega) (unhide R4))
          replace R13 := hide (setc_other (b := b6) (j := 0) (v := .slice (some ⟨g, 0, none⟩) n c) (by have := unhide lR; have := unhide l13; omega) (unhide R13))
          replace HB := hide ((unhide HB).setCell (p := ⟨b6, 0, none⟩) (by have := unhide lR; dsimp only; omega) (.slice (some ⟨g, 0, none⟩) n c))
          clear cb fb R6 LS hr lT
          have R6 := R6x
          clear R6x
          generalize (I28.setCell ⟨b6, 0, none⟩ (.slice (some ⟨g, 0, none⟩) n c)) = WL at R1 R4 R6 R13 HB SGf ⊢
          refine hK.out _ _ ?_ (fun hHeld => ?_)
          · exact unhide R13
          clear hK K
          try simp only [Act.put, List.setIfInBounds_toArray, List.set_cons_zero, List.set_cons_succ]
          refine wpAnyH_done (by kernel_rfl) ?_ _
          go_wp2_with fail
          go_meet
          exact ⟨_, rfl, R1, R4, R6, HB, SGf⟩
        refine AllReadyH.cons (o := { dst := some 42, op := Op.load 26 (Operand.tmp 10), type := 26, pos := "l16_change.go:54", after := #[], guard := none }) rfl (fun K hK => ?_) ?_
        · have cb := row1 (unhide R6)
          go_simp
          refine hK.out _ _ ?_ (fun hHeld => ?_)
          · exact unhide R13
          clear hK K
          try simp only [Act.put, List.setIfInBounds_toArray, List.set_cons_zero, List.set_cons_succ]
          clear cb
          refine wpAnyH_ready (rs := [1, 4]) (by kernel_rfl) (by simp) ?_
          refine AllReadyH.cons (o := { dst := some 41, op := Op.load 24 (Operand.tmp 40), type := 24, pos := "l16_change.go:54", after := #[{ on := 0, ground := Ground.data }], guard := none }) rfl (fun K hK => ?_) ?_
          · have cb := row1 (unhide R6)
            go_simp
            refine hK.out _ _ ?_ (fun hHeld => ?_)
            · exact unhide R13
            clear hK K
            try simp only [Act.put, List.setIfInBounds_toArray, List.set_cons_zero, List.set_cons_succ]
            clear cb
            refine wpAnyH_ready (rs := [4]) (by kernel_rfl) (by simp) ?_
            refine AllReadyH.cons (o := { dst := some 44, op := Op.call { callee := Callee.value (Operand.func 10), args := #[Operand.tmp 42, Operand.tmp 43], argTypes := #[26, 3] }, type := 3, pos := "l16_change.go:54", after := #[{ on := 2, ground := Ground.data }, { on := 3, ground := Ground.data }], guard := none }) rfl (fun K hK => ?_) AllReadyH.nil
            go_simp
            (go_at_call 10; go_fit (implNodeAt_any (pickF X (kp k n)) (pickF A' (kp k n)) (some ⟨g, 0, none⟩) n1 c hn1 beh _ (unhide SGd).nodes); rintro r I29 ⟨rfl, hb⟩)
            rw [unhide hZq]
            replace R1 := hide (row_next hb (unhide R1))
            replace R4 := hide (row_next hb (unhide R4))
            replace R6 := hide (row_next hb (unhide R6))
            replace R13 := hide (row_next hb (unhide R13))
            replace RZ := hide (row_next hb (unhide RZ))
            replace HB := hide (below_two (unhide HB) hb)
            replace LS := hide ((unhide LS).next hb)
            replace SGd := hide ((unhide SGd).next hb)
            replace lT := hide (Nat.le_trans (unhide lT) (hb).size)
            clear hb
            refine hK.out _ _ ?_ (fun hHeld => ?_)
            · exact unhide R13
            clear hK K
            try simp only [Act.put, List.setIfInBounds_toArray, List.set_cons_zero, List.set_cons_succ]
            refine wpAnyH_take (i := 5) (oi := { dst := some 45, op := Op.binOp BinOp.add 3 (Operand.tmp 44) (Operand.const (Value.int IntKind.i64 1)) 3, type := 3, pos := "l16_change.go:54", after := #[{ on := 4, ground := Ground.data }], guard := none }) (v := ?_) rfl (by kernel_rfl) (by kernel_rfl) (by kernel_rfl) (fun _ _ _ h => h) (Or.inl ⟨by rfl, ?_⟩) (by assumption) ?_
            rotate_left
            · intro w hSw; (try dsimp only at hSw); go_simp <;> with_reducible rfl
            try simp only [Act.put, List.setIfInBounds_toArray, List.set_cons_zero, List.set_cons_succ]
            refine wpAnyH_ready (rs := [8]) (by kernel_rfl) (by simp) ?_
            refine AllReadyH.cons (o := { dst := some 48, op := Op.call { callee := Callee.value (Operand.func 25), args := #[Operand.tmp 41, Operand.tmp 45, Operand.tmp 47], argTypes := #[24, 3, 24] }, type := 24, pos := "l16_change.go:54", after := #[{ on := 1, ground := Ground.data }, { on := 5, ground := Ground.data }, { on := 7, ground := Ground.data }, { on := 4, ground := Ground.chain }], guard := none }) rfl (fun K hK => ?_) AllReadyH.nil
            go_simp
            (go_at_call 25; go_fit (implInsert_any (pickF X (kp k n)) (pickF A' (kp k n)) g n1 c B0 b6 q hn1 hqn hnc xp (A' k) z _ (unhide SGd) (unhide RZ) (by have := unhide lz; have := unhide lg6; omega)); rintro r I30 ⟨rfl, hr, gr⟩)
            rw [hn1n] at hr ⊢
            replace R1 := hide ((gr.block b1 (heap_lt (unhide R1)) (fun e => unhide hg1 (Option.some.inj e))).trans (unhide R1))
            replace R4 := hide ((gr.block b4 (heap_lt (unhide R4)) (fun e => unhide hg4 (Option.some.inj e))).trans (unhide R4))
            replace R6 := hide ((gr.block b6 (heap_lt (unhide R6)) (fun e => unhide hg6 (Option.some.inj e))).trans (unhide R6))
            replace R13 := hide ((gr.block b13 (heap_lt (unhide R13)) (fun e => unhide hg13 (Option.some.inj e))).trans (unhide R13))
            replace HB := hide ((unhide HB).grown gr (unhide HB).size (fun k hk => by cases hk; have := unhide lR; have := unhide hg0; omega))
            replace LS := hide ((unhide LS).kept gr)
            replace lT := hide (Nat.le_trans (unhide lT) gr.size)
            replace hr := hide hr
            clear gr SGd RZ
            refine hK.out _ _ ?_ (fun hHeld => ?_)
            · exact unhide R13
            clear hK K
            try simp only [Act.put, List.setIfInBounds_toArray, List.set_cons_zero, List.set_cons_succ]
            refine wpAnyH_take (i := 9) (oi := { dst := some 49, op := Op.fieldAddr 26 (Operand.tmp 10) 0, type := 0, pos := "l16_change.go:54", after := #[{ on := 0, ground := Ground.phase }, { on := 1, ground := Ground.phase }, { on := 2, ground := Ground.phase }, { on := 3, ground := Ground.phase }, { on := 4, ground := Ground.phase }, { on := 5, ground := Ground.phase }, { on := 6, ground := Ground.phase }, { on := 7, ground := Ground.phase }, { on := 8, ground := Ground.phase }], guard := none }) (v := ?_) rfl (by kernel_rfl) (by kernel_rfl) (by kernel_rfl) (fun _ _ _ h => h) (Or.inl ⟨by rfl, ?_⟩) (by assumption) ?_
            rotate_left
            · intro w hSw; (try dsimp only at hSw); go_simp <;> with_reducible rfl
            try simp only [Act.put, List.setIfInBounds_toArray, List.set_cons_zero, List.set_cons_succ]
            refine wpAnyH_ready (rs := [10]) (by kernel_rfl) (by simp) ?_
            refine AllReadyH.cons (o := { dst := none, op := Op.store 24 (Operand.tmp 49) (Operand.tmp 48), type := 0, pos := "l16_change.go:54", after := #[{ on := 9, ground := Ground.data }, { on := 8, ground := Ground.data }, { on := 8, ground := Ground.chain }, { on := 0, ground := Ground.phase }, { on := 1, ground := Ground.phase }, { on := 2, ground := Ground.phase }, { on := 3, ground := Ground.phase }, { on := 4, ground := Ground.phase }, { on := 5, ground := Ground.phase }, { on := 6, ground := Ground.phase }, { on := 7, ground := Ground.phase }, { on := 8, ground := Ground.phase }], guard := none }) rfl (fun K hK => ?_) AllReadyH.nil
            have cb := row1 (unhide R6)
            have fb := frozen_of_row I30 b6 0 _ _ (unhide R6)
            go_simp
            have SGf := hide (show SG (I30.setCell ⟨b6, 0, none⟩ (.slice (some ⟨g, 0, none⟩) n c)) B0 (I30.setCell ⟨b6, 0, none⟩ (.slice (some ⟨g, 0, none⟩) n c)).heap.size (some ⟨g, 0, none⟩) n c (pickF (upd X k xp) (insQ k n q)) (pickF A' (insQ k n q)) by have h := (unhide LS).place (par := par) hk (unhide lT) (by rw [unhide hxp]; exact unhide hr) hq; rw [unhide hxp] at h; have h2 := h.setk (j := 0) (v := .slice (some ⟨g, 0, none⟩) n c) (unhide R6); simpa [World.setCell] using h2)
            have R6x := hide (show (I30.setCell ⟨b6, 0, none⟩ (.slice (some ⟨g, 0, none⟩) n c)).heap[b6]? = some (.cells #[.slice (some ⟨g, 0, none⟩) n c] 26 (0, 0)) by have := setC (v := .slice (some ⟨g, 0, none⟩) n c) (j := 0) (unhide R6); simpa using this)
            replace R1 := hide (setc_other (b := b6) (j := 0) (v := .slice (some ⟨g, 0, none⟩) n c) (by have := unhide lR; have := unhide l13; omega) (unhide R1))
            replace R4 := hide (setc_other (b := b6) (j := 0) (v := .slice (some ⟨g, 0, none⟩) n c) (by have := unhide lR; have := unhide l13; omega) (unhide R4))
            replace R13 := hide (setc_other (b := b6) (j := 0) (v := .slice (some ⟨g, 0, none⟩) n c) (by have := unhide lR; have := unhide l13; omega) (unhide R13))
            replace HB := hide ((unhide HB).setCell (p := ⟨b6, 0, none⟩) (by have := unhide lR; dsimp only; omega) (.slice (some ⟨g, 0, none⟩) n c))
            clear cb fb R6 LS hr lT
            have R6 := R6x
            clear R6x
            generalize (I30.setCell ⟨b6, 0, none⟩ (.slice (some ⟨g, 0, none⟩) n c)) = WL at R1 R4 R6 R13 HB SGf ⊢
            refine hK.out _ _ ?_ (fun hHeld => ?_)
            · exact unhide R13
            clear hK K
            try simp only [Act.put, List.setIfInBounds_toArray, List.set_cons_zero, List.set_cons_succ]
            refine wpAnyH_done (by kernel_rfl) ?_ _
            go_wp2_with fail
            go_meet
            exact ⟨_, rfl, R1, R4, R6, HB, SGf⟩
          refine AllReadyH.cons (o := { dst := some 44, op := Op.call { callee := Callee.value (Operand.func 10), args := #[Operand.tmp 42, Operand.tmp 43], argTypes := #[26, 3] }, type := 3, pos := "l16_change.go:54", after := #[{ on := 2, ground := Ground.data }, { on := 3, ground := Ground.data }], guard := none }) rfl (fun K hK => ?_) ?_
          · go_simp
            (go_at_call 10; go_fit (implNodeAt_any (pickF X (kp k n)) (pickF A' (kp k n)) (some ⟨g, 0, none⟩) n1 c hn1 beh _ (unhide SGd).nodes); rintro r I31 ⟨rfl, hb⟩)
            rw [unhide hZq]
            replace R1 := hide (row_next hb (unhide R1))
            replace R4 := hide (row_next hb (unhide R4))
            replace R6 := hide (row_next hb (unhide R6))
            replace R13 := hide (row_next hb (unhide R13))
            replace RZ := hide (row_next hb (unhide RZ))
            replace HB := hide (below_two (unhide HB) hb)
            replace LS := hide ((unhide LS).next hb)
            replace SGd := hide ((unhide SGd).next hb)
            replace lT := hide (Nat.le_trans (unhide lT) (hb).size)
            clear hb
            refine hK.out _ _ ?_ (fun hHeld => ?_)
            · exact unhide R13
            clear hK K
            try simp only [Act.put, List.setIfInBounds_toArray, List.set_cons_zero, List.set_cons_succ]
            refine wpAnyH_take (i := 5) (oi := { dst := some 45, op := Op.binOp BinOp.add 3 (Operand.tmp 44) (Operand.const (Value.int IntKind.i64 1)) 3, type := 3, pos := "l16_change.go:54", after := #[{ on := 4, ground := Ground.data }], guard := none }) (v := ?_) rfl (by kernel_rfl) (by kernel_rfl) (by kernel_rfl) (fun _ _ _ h => h) (Or.inl ⟨by rfl, ?_⟩) (by assumption) ?_
            rotate_left
            · intro w hSw; (try dsimp only at hSw); go_simp <;> with_reducible rfl
            try simp only [Act.put, List.setIfInBounds_toArray, List.set_cons_zero, List.set_cons_succ]
            refine wpAnyH_ready (rs := [1]) (by kernel_rfl) (by simp) ?_
            refine AllReadyH.cons (o := { dst := some 41, op := Op.load 24 (Operand.tmp 40), type := 24, pos := "l16_change.go:54", after := #[{ on := 0, ground := Ground.data }], guard := none }) rfl (fun K hK => ?_) AllReadyH.nil
            have cb := row1 (unhide R6)
            go_simp
            refine hK.out _ _ ?_ (fun hHeld => ?_)
            · exact unhide R13
            clear hK K
            try simp only [Act.put, List.setIfInBounds_toArray, List.set_cons_zero, List.set_cons_succ]
            clear cb
            refine wpAnyH_ready (rs := [8]) (by kernel_rfl) (by simp) ?_
            refine AllReadyH.cons (o := { dst := some 48, op := Op.call { callee := Callee.value (Operand.func 25), args := #[Operand.tmp 41, Operand.tmp 45, Operand.tmp 47], argTypes := #[24, 3, 24] }, type := 24, pos := "l16_change.go:54", after := #[{ on := 1, ground := Ground.data }, { on := 5, ground := Ground.data }, { on := 7, ground := Ground.data }, { on := 4, ground := Ground.chain }], guard := none }) rfl (fun K hK => ?_) AllReadyH.nil
            go_simp
            (go_at_call 25; go_fit (implInsert_any (pickF X (kp k n)) (pickF A' (kp k n)) g n1 c B0 b6 q hn1 hqn hnc xp (A' k) z _ (unhide SGd) (unhide RZ) (by have := unhide lz; have := unhide lg6; omega)); rintro r I32 ⟨rfl, hr, gr⟩)
            rw [hn1n] at hr ⊢
            replace R1 := hide ((gr.block b1 (heap_lt (unhide R1)) (fun e => unhide hg1 (Option.some.inj e))).trans (unhide R1))
            replace R4 := hide ((gr.block b4 (heap_lt (unhide R4)) (fun e => unhide hg4 (Option.some.inj e))).trans (unhide R4))
            replace R6 := hide ((gr.block b6 (heap_lt (unhide R6)) (fun e => unhide hg6 (Option.some.inj e))).trans (unhide R6))
            replace R13 := hide ((gr.block b13 (heap_lt (unhide R13)) (fun e => unhide hg13 (Option.some.inj e))).trans (unhide R13))
            replace HB := hide ((unhide HB).grown gr (unhide HB).size (fun k hk => by cases hk; have := unhide lR; have := unhide hg0; omega))
            replace LS := hide ((unhide LS).kept gr)
            replace lT := hide (Nat.le_trans (unhide lT) gr.size)
            replace hr := hide hr
            clear gr SGd RZ
            refine hK.out _ _ ?_ (fun hHeld => ?_)
            · exact unhide R13
            clear hK K
            try simp only [Act.put, List.setIfInBounds_toArray, List.set_cons_zero, List.set_cons_succ]
            refine wpAnyH_take (i := 9) (oi := { dst := some 49, op := Op.fieldAddr 26 (Operand.tmp 10) 0, type := 0, pos := "l16_change.go:54", after := #[{ on := 0, ground := Ground.phase }, { on := 1, ground := Ground.phase }, { on := 2, ground := Ground.phase }, { on := 3, ground := Ground.phase }, { on := 4, ground := Ground.phase }, { on := 5, ground := Ground.phase }, { on := 6, ground := Ground.phase }, { on := 7, ground := Ground.phase }, { on := 8, ground := Ground.phase }], guard := none }) (v := ?_) rfl (by kernel_rfl) (by kernel_rfl) (by kernel_rfl) (fun _ _ _ h => h) (Or.inl ⟨by rfl, ?_⟩) (by assumption) ?_
            rotate_left
            · intro w hSw; (try dsimp only at hSw); go_simp <;> with_reducible rfl
            try simp only [Act.put, List.setIfInBounds_toArray, List.set_cons_zero, List.set_cons_succ]
            refine wpAnyH_ready (rs := [10]) (by kernel_rfl) (by simp) ?_
            refine AllReadyH.cons (o := { dst := none, op := Op.store 24 (Operand.tmp 49) (Operand.tmp 48), type := 0, pos := "l16_change.go:54", after := #[{ on := 9, ground := Ground.data }, { on := 8, ground := Ground.data }, { on := 8, ground := Ground.chain }, { on := 0, ground := Ground.phase }, { on := 1, ground := Ground.phase }, { on := 2, ground := Ground.phase }, { on := 3, ground := Ground.phase }, { on := 4, ground := Ground.phase }, { on := 5, ground := Ground.phase }, { on := 6, ground := Ground.phase }, { on := 7, ground := Ground.phase }, { on := 8, ground := Ground.phase }], guard := none }) rfl (fun K hK => ?_) AllReadyH.nil
            have cb := row1 (unhide R6)
            have fb := frozen_of_row I32 b6 0 _ _ (unhide R6)
            go_simp
            have SGf := hide (show SG (I32.setCell ⟨b6, 0, none⟩ (.slice (some ⟨g, 0, none⟩) n c)) B0 (I32.setCell ⟨b6, 0, none⟩ (.slice (some ⟨g, 0, none⟩) n c)).heap.size (some ⟨g, 0, none⟩) n c (pickF (upd X k xp) (insQ k n q)) (pickF A' (insQ k n q)) by have h := (unhide LS).place (par := par) hk (unhide lT) (by rw [unhide hxp]; exact unhide hr) hq; rw [unhide hxp] at h; have h2 := h.setk (j := 0) (v := .slice (some ⟨g, 0, none⟩) n c) (unhide R6); simpa [World.setCell] using h2)
            have R6x := hide (show (I32.setCell ⟨b6, 0, none⟩ (.slice (some ⟨g, 0, none⟩) n c)).heap[b6]? = some (.cells #[.slice (some ⟨g, 0, none⟩) n c] 26 (0, 0)) by have := setC (v := .slice (some ⟨g, 0, none⟩) n c) (j := 0) (unhide R6); simpa using this)
            replace R1 := hide (setc_other (b := b6) (j := 0) (v := .slice (some ⟨g, 0, none⟩) n c) (by have := unhide lR; have := unhide l13; omega) (unhide R1))
            replace R4 := hide (setc_other (b := b6) (j := 0) (v := .slice (some ⟨g, 0, none⟩) n c) (by have := unhide lR; have := unhide l13; omega) (unhide R4))
            replace R13 := hide (setc_other (b := b6) (j := 0) (v := .slice (some ⟨g, 0, none⟩) n c) (by have := unhide lR; have := unhide l13; omega) (unhide R13))
            replace HB := hide ((unhide HB).setCell (p := ⟨b6, 0, none⟩) (by have := unhide lR; dsimp only; omega) (.slice (some ⟨g, 0, none⟩) n c))
            clear cb fb R6 LS hr lT
            have R6 := R6x
            clear R6x
            generalize (I32.setCell ⟨b6, 0, none⟩ (.slice (some ⟨g, 0, none⟩) n c)) = WL at R1 R4 R6 R13 HB SGf ⊢
            refine hK.out _ _ ?_ (fun hHeld => ?_)
            · exact unhide R13
            clear hK K
            try simp only [Act.put, List.setIfInBounds_toArray, List.set_cons_zero, List.set_cons_succ]
            refine wpAnyH_done (by kernel_rfl) ?_ _
            go_wp2_with fail
            go_meet
            exact ⟨_, rfl, R1, R4, R6, HB, SGf⟩
          exact AllReadyH.nil
        exact AllReadyH.nil
      exact AllReadyH.nil
    case rest =>
    clear R1 R4 R6 R13 HB LS SGd lT
    obtain ⟨WF, hWF, R1, R4, R6, HB, SGf⟩ := hcut
    subst hWF
    have ET := hide (show ErrT WF from (unhide hg).next (unhide HB))
    go_upto_region 9 with fail
    refine wp_region_held_drew (S := (fun u => u.cell? ⟨b6, 0, none⟩ = some (.slice (some ⟨g, 0, none⟩) n c))) (by kernel_rfl) ?_ (fun hHeld => ?_)
    · exact row1 (unhide R6)
    have hdr := hide (show Below WF.heap.size WF WF.drew from (Below.refl _ _).drew)
    replace R1 := hide (row_next (unhide hdr) (unhide R1))
    replace R4 := hide (row_next (unhide hdr) (unhide R4))
    replace R6 := hide (row_next (unhide hdr) (unhide R6))
    replace HB := hide (below_two (unhide HB) (unhide hdr))
    replace SGf := hide (show SG WF.drew B0 WF.drew.heap.size (some ⟨g, 0, none⟩) n c (pickF (upd X k xp) (insQ k n q)) (pickF A' (insQ k n q)) from (unhide SGf).next (unhide hdr))
    replace ET := hide ((unhide ET).next (unhide hdr))
    clear hdr
    generalize WF.drew = VF at R1 R4 R6 HB SGf ET hHeld ⊢
    refine wpAnyH_take (i := 0) (oi := { dst := some 50, op := Op.load 26 (Operand.tmp 10), type := 26, pos := "l16_change.go:56", after := #[], guard := none }) (v := ?_) rfl (by kernel_rfl) (by kernel_rfl) (by kernel_rfl) (fun _ _ _ h => h) (Or.inl ⟨by rfl, ?_⟩) (by assumption) ?_
    rotate_left
    · intro w hSw; (try dsimp only at hSw); go_simp <;> with_reducible rfl
    try simp only [Act.put, List.setIfInBounds_toArray, List.set_cons_zero, List.set_cons_succ]
    refine wpAnyH_take (i := 1) (oi := { dst := some 51, op := Op.move (Operand.tmp 11), type := 61, pos := "l16_change.go:56", after := #[], guard := none }) (v := ?_) rfl (by kernel_rfl) (by kernel_rfl) (by kernel_rfl) (fun _ _ _ h => h) (Or.inl ⟨by rfl, ?_⟩) (by assumption) ?_
    rotate_left
    · intro w hSw; (try dsimp only at hSw); go_simp <;> with_reducible rfl
    try simp only [Act.put, List.setIfInBounds_toArray, List.set_cons_zero, List.set_cons_succ]
    refine wpAnyH_ready (rs := [2]) (by kernel_rfl) (by simp) ?_
    refine AllReadyH.cons (o := { dst := some 52, op := Op.call { callee := Callee.value (Operand.func 26), args := #[Operand.tmp 51], argTypes := #[61] }, type := 3, pos := "l16_change.go:56", after := #[{ on := 1, ground := Ground.data }], guard := none }) rfl (fun K hK => ?_) AllReadyH.nil
    go_simp
    (go_at_call 26; go_fit (unhide EK _ (unhide ET)); rintro r Y1 ⟨rfl, hb⟩)
    replace R1 := hide (row_next hb (unhide R1))
    replace R4 := hide (row_next hb (unhide R4))
    replace R6 := hide (row_next hb (unhide R6))
    replace HB := hide (below_two (unhide HB) hb)
    replace SGf := hide (((unhide SGf).next hb).high hb.size)
    replace ET := hide ((unhide ET).next hb)
    refine hK.out _ _ ?_ (fun hHeld => ?_)
    · exact row1 (unhide R6)
    clear hK K hb
    try simp only [Act.put, List.setIfInBounds_toArray, List.set_cons_zero, List.set_cons_succ]
    refine wpAnyH_ready (rs := [3]) (by kernel_rfl) (by simp) ?_
    refine AllReadyH.cons (o := { dst := none, op := Op.store 26 (Operand.tmp 8) (Operand.tmp 50), type := 0, pos := "l16_change.go:56", after := #[{ on := 0, ground := Ground.data }, { on := 2, ground := Ground.chain }, { on := 0, ground := Ground.phase }, { on := 1, ground := Ground.textOnly Departure.lateStores }, { on := 2, ground := Ground.textOnly Departure.lateStoresUnsure }], guard := none }) rfl (fun K hK => ?_) AllReadyH.nil
    have cb := row1 (unhide R4)
    have fb := frozen_of_row Y1 b4 0 _ _ (unhide R4)
    go_simp
    have dd := hide (show (Y1.setCell ⟨b4, 0, none⟩ (.slice (some ⟨g, 0, none⟩) n c)).cell? ⟨b4, 0, none⟩ = some (.slice (some ⟨g, 0, none⟩) n c) from World.cell?_setCell_same _ _ _ cb)
    replace SGf := hide (show SG (Y1.setCell ⟨b4, 0, none⟩ (.slice (some ⟨g, 0, none⟩) n c)) B0 (Y1.setCell ⟨b4, 0, none⟩ (.slice (some ⟨g, 0, none⟩) n c)).heap.size (some ⟨g, 0, none⟩) n c (pickF (upd X k xp) (insQ k n q)) (pickF A' (insQ k n q)) by have h := (unhide SGf).setk (j := 0) (v := .slice (some ⟨g, 0, none⟩) n c) (unhide R4); simpa [World.setCell] using h)
    replace R6 := hide (setc_other (b := b4) (j := 0) (v := .slice (some ⟨g, 0, none⟩) n c) (by have := unhide lR; omega) (unhide R6))
    replace HB := hide ((unhide HB).setCell (p := ⟨b4, 0, none⟩) (by have := unhide lR; dsimp only; omega) (.slice (some ⟨g, 0, none⟩) n c))
    replace ET := hide ((unhide ET).low (by have := unhide lR; have := unhide l0; omega) ((Below.refl b4 Y1).setCell (p := ⟨b4, 0, none⟩) (Nat.le_refl _) (.slice (some ⟨g, 0, none⟩) n c)))
    refine hK.out _ _ ?_ (fun hHeld => ?_)
    · exact row1 (unhide R6)
    clear hK K cb fb
    try simp only [Act.put, List.setIfInBounds_toArray, List.set_cons_zero, List.set_cons_succ]
    refine wpAnyH_take (i := 4) (oi := { dst := some 9, op := Op.assign (Operand.tmp 52), type := 3, pos := "l16_change.go:56", after := #[{ on := 2, ground := Ground.data }, { on := 3, ground := Ground.chain }, { on := 0, ground := Ground.phase }, { on := 1, ground := Ground.phase }, { on := 2, ground := Ground.phase }, { on := 3, ground := Ground.phase }], guard := none }) (v := ?_) rfl (by kernel_rfl) (by kernel_rfl) (by kernel_rfl) (fun _ _ _ h => h) (Or.inl ⟨by rfl, ?_⟩) (by assumption) ?_
    rotate_left
    · intro w hSw; (try dsimp only at hSw); go_simp <;> with_reducible rfl
    try simp only [Act.put, List.setIfInBounds_toArray, List.set_cons_zero, List.set_cons_succ]
    refine wpAnyH_done (by kernel_rfl) ?_ _
    have d0 := unhide dd
    go_wp2_with fail
    exact bodyPost_ret (v := .tuple #[.agg #[.slice (some ⟨g, 0, none⟩) n c], .int .i64 0]) (by simp [results, Tryz.results7, go_sem, d0]) rfl (by rw [unhide hY, unhide hxp]; exact ⟨_, c, (pickF A' (insQ k n q)), rfl, (unhide SGf).low (unhide lB0), unhide HB⟩)
end Go.Proofs.YtdbphpekhmlmdaaGreatDoor
