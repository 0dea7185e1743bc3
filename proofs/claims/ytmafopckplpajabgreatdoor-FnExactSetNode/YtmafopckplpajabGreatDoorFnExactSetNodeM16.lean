/-
  SetE: texts of one claim, in one.
-/
import Derived.Test.YtmafopckplpajabGreatDoorFnExactSetNodeM12
import Derived.Test.YtmafopckplpajabGreatDoorFnExactSetNodeM15
import Derived.Test.YtmafopckplpajabGreatDoorFnExactSetNodeM14

/-
  The exact law of SetNode. (By changelaw.py.)
-/
namespace Go.Proofs.YtmafopckplpajabGreatDoor
open Go.RowKit
set_option linter.unusedVariables false

def setN (X : Nat → Nd) (n : Nat) (x : Nd) : Nat := n
theorem specSetNode_n (X : Nat → Nd) (A : Nat → Na) (ao : Option Addr) (n cp : Nat) (hn : n ≤ 1048576) (hs : ∀ i, i < n → (X i).Small) (hk : ∀ i, i < n → Caps (X i) (A i)) (x : Nd) (s : Na) (hx : x.Small) (hxc : Caps x s) (w : World) (P : ∀ i, i < n → NrAt w ao i (X i) (A i)) (H : NdIn w x s) :
    Calls Tryz.prog 6 #[.agg #[.slice ao n cp], .agg (ndC x s)] w fun r w' => ChRes w r w' (setC16 X n x) (setN X n x) (setX X n x) := specSetNode_any X A ao n cp hn hs hk x s hx hxc w P H
theorem implSetNode_n (X : Nat → Nd) (A : Nat → Na) (ao : Option Addr) (n cp : Nat) (hn : n ≤ 1048576) (hc : n ≤ cp) (hao : ao = none → cp = 0) (hs : ∀ i, i < n → (X i).Small) (hk : ∀ i, i < n → Caps (X i) (A i)) (hw : Wf X n) (x : Nd) (s : Na) (hx : x.Small) (hxc : Caps x s) (w : World) (P : ∀ i, i < n → NrAt w ao i (X i) (A i)) (H : NdIn w x s) (hg : ErrT w) :
    Calls Tryz.prog 9 #[.agg #[.slice ao n cp], .agg (ndC x s)] w fun r w' => ChRes w r w' (setC16 X n x) (setN X n x) (setX X n x) := implSetNode_any X A ao n cp hn hc hao hs hk hw x s hx hxc w P H hg
theorem set_fits_n (X : Nat → Nd) (n : Nat) (x : Nd) (hn : n ≤ 1048576) (ht : scT X n ≤ 1048576) (hs : ∀ i, i < n → (X i).Small) (hx : x.Small) : setN X n x ≤ 1048576 ∧ (∀ i, i < setN X n x → (setX X n x i).Small) ∧ scT (setX X n x) (setN X n x) ≤ 1048576 := set_fits X n x hn ht hs hx

set_option maxHeartbeats 32000000 in
set_option maxRecDepth 100000 in
theorem fnExactSetNode_walk (ao : Option Addr) (n cp : Nat) (X : Nat → Nd) (A : Nat → Na) (x : Nd) (s : Na) (w : World) (hw : n ≤ maxLen ∧ (∀ i, i < n → (X i).Fit) ∧ ∀ i, i < n → NrAt w ao i (X i) (A i)) (hx : x.Fit ∧ NdIn w x s) (hg : ErrT w) :
    Calls Tryz.prog 3 #[.agg #[.slice ao n cp], .agg (ndC x s)] w fun r w' => r = .returned (.bool true) ∧ Below w.heap.size w w' := by
  obtain ⟨hm, hf, P⟩ := hw
  have Z := hide (fun u (hu : Below w.heap.size w u) => szScene_any X A ao n cp hm hf u (fun i hi => (P i hi).next hu))
  by_cases hbig : 1048576 < scT X n
  · rw [if_pos hbig] at Z
    go_enter Tryz.func3, Tryz.ntmps3
    go_wp2_with fail
    go_fit (unhide Z _ (al2_below _ _ _))
    rintro r w1 ⟨rfl, hb⟩
    go_wp2_with fail
    go_ret
    exact ⟨rfl, below_two (al2_below _ _ _) hb⟩
  rw [if_neg hbig] at Z
  have hpos : ¬ ((1048576 : Int) - (scT X n : Int) < 0) := by omega
  have hn : n ≤ 1048576 := by unfold scT at hbig; omega
  have hs : ∀ i, i < n → (X i).Small := fun i hi => Nd.small (by have := sumT_le X hi; unfold scT at hbig; omega)
  have hwf : Wf X n := ⟨fun i hi => (hf i hi).idw, fun i hi => (hf i hi).parw⟩
  obtain ⟨hxf, HX⟩ := hx
  have ZN := hide (fun u => szNode_any x s hxf (1048576 - (scT X n : Int)) (by omega) u)
  by_cases hbg2 : 1048576 - (scT X n : Int) < (x.tot : Int)
  · rw [if_pos hbg2] at ZN
    go_enter Tryz.func3, Tryz.ntmps3
    go_wp2_with fail
    go_fit (unhide Z _ (al2_below _ _ _))
    rintro r w1 ⟨rfl, hb⟩
    have RB := hide (row_next hb (al2_1 w (.cells #[.slice ao n cp] 24) (.cells (ndC x s) 38)))
    replace hb := hide hb
    go_wp2_with (refine load_lown rfl _ rfl (w.heap.size + 1) rfl x s 38 (unhide RB) ?_)
    go_fit (unhide ZN _)
    rintro r w2 ⟨rfl, hb2⟩
    go_wp2_with fail
    go_ret
    exact ⟨rfl, below_two (below_two (al2_below _ _ _) (unhide hb)) hb2⟩
  rw [if_neg hbg2] at ZN
  have hpos2 : ¬ ((1048576 : Int) - (scT X n : Int) - (x.tot : Int) < 0) := by omega
  have hxs : x.Small := Nd.small (by omega)
  have TN_ := hide (fun u (hu : Below w.heap.size w u) => toNode_own x s hxs u (HX.next hu))
  have EN_ := hide (fun u s1 s2 => eqNode_same x s1 s2 hxs u)
  have T := hide (fun u (hu : Below w.heap.size w u) => toScene_own X A ao n cp hn hs u (fun i hi => (P i hi).next hu))
  have S_ := hide (fun (u : World) (a : Option Addr) (A' : Nat → Na) (base t : Nat) (s1 : Na) (base1 : Nat) (h : SG u base t a n n X A') (h1 : NdG u base1 x s1) => specSetNode_n X A' a n n hn hs h.caps x s1 hxs (lists_caps h1.own) u h.nodes (lists_in h1.own))
  have I_ := hide (fun (u : World) (a : Option Addr) (A' : Nat → Na) (base t : Nat) (s1 : Na) (base1 : Nat) (h : SG u base t a n n X A') (h1 : NdG u base1 x s1) (hu : Below w.heap.size w u) => implSetNode_n X A' a n n hn h.cap.1 h.cap.2 hs h.caps hwf x s1 hxs (lists_caps h1.own) u h.nodes (lists_in h1.own) (hg.next hu))
  obtain ⟨fM, fS, fT⟩ := set_fits_n X n x (by omega) (by omega) hs hxs
  have EX := hide (fun (u : World) (a a' : Option Addr) (A1 A2 : Nat → Na) (base t base' : Nat) (h : SG u base t a n n X A1) (h' : ScV u base' a' n n X A2) => eqScene_same X A1 A2 a a' n n n hn hs u h.nodes h'.nodes)
  have MX := hide (fun (u : World) (a : Option Addr) (A' : Nat → Na) (base t : Nat) (h : SG u base t a n n X A') => markScene_g X A' a n n base t hs (by omega) u h)
  have hk1 := hide (show kG X n ≤ 100000000 by have := kG_le X n; unfold scT at hbig; omega)
  have MN := hide (fun (u : World) (s1 : Na) (base t : Nat) (h : NdT u base t x s1) => markNode_far x s1 hxs base t (kG X n) (unhide hk1) u h)
  generalize setC16 X n x = C at S_ I_
  generalize setX X n x = Y at S_ I_ fS fT
  generalize setN X n x = M at S_ I_ fM fS fT
  have EY := hide (fun (u : World) (a a' : Option Addr) (c1 c2 : Nat) (A1 A2 : Nat → Na) (base base' t t' : Nat) (h : SG u base t a M c1 Y A1) (h' : SG u base' t' a' M c2 Y A2) => eqScene_same Y A1 A2 a a' M c1 c2 fM fS u h.nodes h'.nodes)
  have MY := hide (fun (u : World) (a : Option Addr) (c1 : Nat) (A' : Nat → Na) (base t : Nat) (h : SG u base t a M c1 Y A') => markScene_g Y A' a M c1 base t fS fT u h)
  have HY := hide (fun (u : World) (a : Option Addr) (c1 : Nat) (A' : Nat → Na) (base t : Nat) (h : MD u base t a M c1 Y A') => heldScene_g Y A' a M c1 base t fS fT u h)
  have hq1 : ¬ (((kG X n : Nat) : Int) < 0) := by omega
  have hq2 : ¬ (((kG Y M : Nat) : Int) < 0) := by omega
  clear P hm hf hbig hn hs hwf fM fS fT hbg2 hxs hxf HX
  go_enter Tryz.func3, Tryz.ntmps3
  go_upto_region 1 with fail
  have RA := hide (al2_0 w (.cells #[.slice ao n cp] 24) (.cells (ndC x s) 38))
  have RB := hide (al2_1 w (.cells #[.slice ao n cp] 24) (.cells (ndC x s) 38))
  have HB := hide (al2_below w (.cells #[.slice ao n cp] 24) (.cells (ndC x s) 38))
  obtain ⟨b_RB, hbB⟩ : ∃ b, Hid (b = w.heap.size + 1) := ⟨_, rfl⟩
  obtain ⟨b_RA, hbA⟩ : ∃ b, Hid (b = w.heap.size) := ⟨_, rfl⟩
  rw [← unhide hbB] at RB
  rw [← unhide hbA] at RA
  rw [← unhide hbB, ← unhide hbA]
  have ORD := hide (show w.heap.size ≤ b_RA ∧ b_RA < b_RB by rw [unhide hbB, unhide hbA]; omega)
  have CUR := hide (show b_RB + 1 ≤ ((w.alloc (.cells #[.slice ao n cp] 24)).alloc (.cells (ndC x s) 38)).heap.size by rw [unhide hbB, al1_size, al1_size]; omega)
  generalize (w.alloc (.cells #[.slice ao n cp] 24)).alloc (.cells (ndC x s) 38) = W0 at RA RB HB CUR ⊢
  clear hbA hbB
  have q_RA := row1 (unhide RA)
  go_wp2_with fail
  go_fit (unhide Z _ (unhide HB))
  rintro r w1 ⟨rfl, hb⟩
  clear q_RA
  replace RA := hide (row_next hb (unhide RA))
  replace RB := hide (row_next hb (unhide RB))
  replace HB := hide (below_two (unhide HB) hb)
  replace CUR := hide (Nat.le_trans (unhide CUR) (Below.size hb))
  clear hb
  clear Z
  go_wp2_with (refine load_lown rfl _ rfl b_RB rfl x s 38 (unhide RB) ?_)
  go_fit (unhide ZN _)
  rintro r w2 ⟨rfl, hb⟩
  replace RA := hide (row_next hb (unhide RA))
  replace RB := hide (row_next hb (unhide RB))
  replace HB := hide (below_two (unhide HB) hb)
  replace CUR := hide (Nat.le_trans (unhide CUR) (Below.size hb))
  clear hb
  clear ZN
  go_upto_region 8 with fail
  go_cut [6, 7] (fun t v u => ∃ bb aa cc AA, t = .pointer (some ⟨bb, 0, none⟩) ∧ v = .int .i64 C ∧ u.heap[bb]? = some (.cells #[.slice aa M cc] 43 (0, 0)) ∧ w2.heap.size ≤ bb ∧ SG u w2.heap.size u.heap.size aa M cc Y AA ∧ Below w2.heap.size w2 u)
  case first =>
    refine wp_region_held_drew (S := (fun u => u.cell? ⟨b_RA, 0, none⟩ = some (.slice ao n cp) ∧ u.rangeAt b_RB 0 (ndC x s).toList)) (by kernel_rfl) ?_ (fun hHeld => ?_)
    · exact ⟨row1 (unhide RA), rowRng (unhide RB)⟩
    have hB2 := hide (show Below w2.heap.size w2 w2.drew from (Below.refl _ _).drew)
    replace RA := hide (row_next (unhide hB2) (unhide RA))
    replace RB := hide (row_next (unhide hB2) (unhide RB))
    generalize w2.drew = V0 at RA RB hB2 hHeld ⊢
    refine wpAnyH_take (i := 0) (oi := { dst := some 28, op := Op.load 24 (Operand.tmp 2), type := 24, pos := "exact.go:3559", after := #[], guard := none }) (v := ?_) rfl (by kernel_rfl) (by kernel_rfl) (by kernel_rfl) (fun _ _ _ h => h) (Or.inl ⟨by rfl, ?_⟩) (by assumption) ?_
    rotate_left
    · intro w hSw; (try dsimp only at hSw); go_simp <;> with_reducible rfl
    try simp only [Act.put, List.setIfInBounds_toArray, List.set_cons_zero, List.set_cons_succ]
    refine wpAnyH_take (i := 2) (oi := { dst := some 30, op := Op.load 38 (Operand.tmp 3), type := 38, pos := "exact.go:3559", after := #[], guard := none }) (v := .agg (ndC x s)) rfl (by kernel_rfl) (by kernel_rfl) (by kernel_rfl) (fun _ _ _ h => h) (yields_lnode (by rfl) _ rfl b_RB 0 rfl x s (fun w h => h.2)) (by assumption) ?_
    try simp only [Act.put, List.setIfInBounds_toArray, List.set_cons_zero, List.set_cons_succ]
    refine wpAnyH_ready (rs := [1, 8]) (by kernel_rfl) (by simp) ?_
    refine AllReadyH.cons (o := { dst := some 29, op := Op.call { callee := Callee.value (Operand.func 7), args := #[Operand.tmp 28], argTypes := #[24] }, type := 43, pos := "exact.go:3559", after := #[{ on := 0, ground := Ground.data }], guard := none }) rfl (fun K hK => ?_) ?_
    · go_simp
      (go_at_call 7; go_fit (unhide T _ (below_two (unhide HB) (unhide hB2))); rintro r V3 ⟨at_, At, rfl, hp, hb⟩)
      replace RA := hide (row_next hb (unhide RA))
      replace RB := hide (row_next hb (unhide RB))
      replace hB2 := hide (below_two (unhide hB2) hb)
      refine hK.out _ _ ?_ (fun hHeld => ?_)
      · exact ⟨row1 (unhide RA), rowRng (unhide RB)⟩
      clear hK K
      try simp only [Act.put, List.setIfInBounds_toArray, List.set_cons_zero, List.set_cons_succ]
      have St := hide hp.sg
      clear hp hb
      refine wpAnyH_ready (rs := [3, 8]) (by kernel_rfl) (by simp) ?_
      refine AllReadyH.cons (o := { dst := some 31, op := Op.call { callee := Callee.value (Operand.func 8), args := #[Operand.tmp 30], argTypes := #[38] }, type := 56, pos := "exact.go:3559", after := #[{ on := 2, ground := Ground.data }, { on := 1, ground := Ground.chain }], guard := none }) rfl (fun K hK => ?_) ?_
      · go_simp
        (go_at_call 8; go_fit (unhide TN_ _ (below_two (unhide HB) (unhide hB2))); rintro r V4 ⟨st, Kt, rfl, hp, h5, hb⟩)
        replace RA := hide (row_next hb (unhide RA))
        replace RB := hide (row_next hb (unhide RB))
        replace hB2 := hide (below_two (unhide hB2) hb)
        replace St := hide ((unhide St).next hb)
        refine hK.out _ _ ?_ (fun hHeld => ?_)
        · exact ⟨row1 (unhide RA), rowRng (unhide RB)⟩
        clear hK K
        try simp only [Act.put, List.setIfInBounds_toArray, List.set_cons_zero, List.set_cons_succ]
        have Nt := hide (hp.ndG h5)
        clear hp h5 hb
        refine wpAnyH_ready (rs := [4, 8]) (by kernel_rfl) (by simp) ?_
        refine AllReadyH.cons (o := { dst := some 32, op := Op.call { callee := Callee.value (Operand.func 6), args := #[Operand.tmp 29, Operand.tmp 31], argTypes := #[43, 56] }, type := 44, pos := "exact.go:3559", after := #[{ on := 1, ground := Ground.data }, { on := 3, ground := Ground.data }, { on := 3, ground := Ground.chain }], guard := none }) rfl (fun K hK => ?_) ?_
        · have hsz := hide (show w2.heap.size ≤ V4.heap.size from (unhide hB2).size)
          go_simp
          (go_at_call 6; go_fit (unhide S_ _ _ _ _ _ _ _ (unhide St) (unhide Nt)); rintro r V5 ⟨ar, cr, Ar, rfl, hp, hb⟩)
          replace RA := hide (row_next hb (unhide RA))
          replace RB := hide (row_next hb (unhide RB))
          replace hB2 := hide (below_two (unhide hB2) hb)
          replace St := hide ((unhide St).next hb)
          replace Nt := hide ((unhide Nt).next hb)
          refine hK.out _ _ ?_ (fun hHeld => ?_)
          · exact ⟨row1 (unhide RA), rowRng (unhide RB)⟩
          clear hK K
          try simp only [Act.put, List.setIfInBounds_toArray, List.set_cons_zero, List.set_cons_succ]
          have Sr := hide (hp.low (unhide hsz))
          clear hp hb hsz St Nt
          refine wpAnyH_take (i := 5) (oi := { dst := some 27, op := Op.move (Operand.tmp 32), type := 44, pos := "exact.go:3559", after := #[{ on := 4, ground := Ground.data }], guard := none }) (v := ?_) rfl (by kernel_rfl) (by kernel_rfl) (by kernel_rfl) (fun _ _ _ h => h) (Or.inl ⟨by rfl, ?_⟩) (by assumption) ?_
          rotate_left
          · intro w hSw; (try dsimp only at hSw); go_simp <;> with_reducible rfl
          try simp only [Act.put, List.setIfInBounds_toArray, List.set_cons_zero, List.set_cons_succ]
          refine wpAnyH_take (i := 6) (oi := { dst := some 33, op := Op.extract (Operand.tmp 27) 0, type := 43, pos := "exact.go:3559", after := #[{ on := 5, ground := Ground.data }], guard := none }) (v := ?_) rfl (by kernel_rfl) (by kernel_rfl) (by kernel_rfl) (fun _ _ _ h => h) (Or.inl ⟨by rfl, ?_⟩) (by assumption) ?_
          rotate_left
          · intro w hSw; (try dsimp only at hSw); go_simp <;> with_reducible rfl
          try simp only [Act.put, List.setIfInBounds_toArray, List.set_cons_zero, List.set_cons_succ]
          refine wpAnyH_take (i := 7) (oi := { dst := some 34, op := Op.extract (Operand.tmp 27) 1, type := 3, pos := "exact.go:3559", after := #[{ on := 5, ground := Ground.data }, { on := 9, ground := Ground.gcOnly Departure.lateStores }], guard := none }) (v := ?_) rfl (by kernel_rfl) (by kernel_rfl) (by kernel_rfl) (fun _ _ _ h => h) (Or.inl ⟨by rfl, ?_⟩) (by assumption) ?_
          rotate_left
          · intro w hSw; (try dsimp only at hSw); go_simp <;> with_reducible rfl
          try simp only [Act.put, List.setIfInBounds_toArray, List.set_cons_zero, List.set_cons_succ]
          refine wpAnyH_ready (rs := [8]) (by kernel_rfl) (by simp) ?_
          refine AllReadyH.cons (o := { dst := some 6, op := Op.alloc 43, type := 0, pos := "exact.go:3559", after := #[], guard := none }) rfl (fun K hK => ?_) AllReadyH.nil
          have lz := hide (show w2.heap.size ≤ V5.heap.size from (unhide hB2).size)
          go_simp
          replace RA := hide (row_next (al1_below V5 (.cells #[.slice none 0 0] 43)) (unhide RA))
          replace RB := hide (row_next (al1_below V5 (.cells #[.slice none 0 0] 43)) (unhide RB))
          replace hB2 := hide (below_two (unhide hB2) (al1_below V5 (.cells #[.slice none 0 0] 43)))
          replace Sr := hide ((unhide Sr).next (al1_below V5 (.cells #[.slice none 0 0] 43)))
          refine hK.out _ _ ?_ (fun hHeld => ?_)
          · exact ⟨row1 (unhide RA), rowRng (unhide RB)⟩
          clear hK K
          try simp only [Act.put, List.setIfInBounds_toArray, List.set_cons_zero, List.set_cons_succ]
          have RZ := hide (new_row V5 (.cells #[.slice none 0 0] 43))
          replace Sr := hide ((unhide Sr).high (show V5.heap.size ≤ (V5.alloc (.cells #[.slice none 0 0] 43)).heap.size from (al1_below V5 (.cells #[.slice none 0 0] 43)).size))
          generalize V5.alloc (.cells #[.slice none 0 0] 43) = V6 at RA RB Sr RZ hB2 hHeld ⊢
          generalize V5.heap.size = bz at RZ lz ⊢
          refine wpAnyH_ready (rs := [9]) (by kernel_rfl) (by simp) ?_
          refine AllReadyH.cons (o := { dst := none, op := Op.store 43 (Operand.tmp 6) (Operand.tmp 33), type := 0, pos := "exact.go:3559", after := #[{ on := 8, ground := Ground.data }, { on := 6, ground := Ground.data }, { on := 4, ground := Ground.chain }, { on := 0, ground := Ground.phase }, { on := 1, ground := Ground.phase }, { on := 2, ground := Ground.phase }, { on := 3, ground := Ground.phase }, { on := 4, ground := Ground.phase }, { on := 5, ground := Ground.phase }, { on := 6, ground := Ground.phase }, { on := 7, ground := Ground.textOnly Departure.lateStores }, { on := 8, ground := Ground.phase }], guard := none }) rfl (fun K hK => ?_) AllReadyH.nil
          have cb := row1 (unhide RZ)
          have fb := frozen_of_row V6 bz 0 _ _ (unhide RZ)
          go_simp
          replace RA := hide (setc_other (b := bz) (j := 0) (v := (.slice ar M cr)) (by have h1 := unhide lz; have h2 := unhide CUR; have h3 := unhide ORD; omega) (unhide RA))
          replace RB := hide (setc_other (b := bz) (j := 0) (v := (.slice ar M cr)) (by have h1 := unhide lz; have h2 := unhide CUR; have h3 := unhide ORD; omega) (unhide RB))
          replace Sr := hide (show SG (V6.setCell ⟨bz, 0, none⟩ (.slice ar M cr)) w2.heap.size (V6.setCell ⟨bz, 0, none⟩ (.slice ar M cr)).heap.size ar M cr Y Ar by have h := (unhide Sr).setk (j := 0) (v := (.slice ar M cr)) (unhide RZ); simpa [World.setCell] using h)
          replace hB2 := hide ((unhide hB2).setCell (p := ⟨bz, 0, none⟩) (unhide lz) (.slice ar M cr))
          replace RZ := hide (show (V6.setCell ⟨bz, 0, none⟩ (.slice ar M cr)).heap[bz]? = some (.cells #[(.slice ar M cr)] 43 (0, 0)) by have := setC (v := (.slice ar M cr)) (j := 0) (unhide RZ); simpa using this)
          refine hK.out _ _ ?_ (fun hHeld => ?_)
          · exact ⟨row1 (unhide RA), rowRng (unhide RB)⟩
          clear hK K
          try simp only [Act.put, List.setIfInBounds_toArray, List.set_cons_zero, List.set_cons_succ]
          clear cb fb
          refine wpAnyH_take (i := 10) (oi := { dst := some 7, op := Op.assign (Operand.tmp 34), type := 3, pos := "exact.go:3559", after := #[{ on := 7, ground := Ground.data }, { on := 9, ground := Ground.chain }, { on := 0, ground := Ground.phase }, { on := 1, ground := Ground.phase }, { on := 2, ground := Ground.phase }, { on := 3, ground := Ground.phase }, { on := 4, ground := Ground.phase }, { on := 5, ground := Ground.phase }, { on := 6, ground := Ground.phase }, { on := 7, ground := Ground.phase }, { on := 8, ground := Ground.phase }, { on := 9, ground := Ground.phase }], guard := none }) (v := ?_) rfl (by kernel_rfl) (by kernel_rfl) (by kernel_rfl) (fun _ _ _ h => h) (Or.inl ⟨by rfl, ?_⟩) (by assumption) ?_
          rotate_left
          · intro w hSw; (try dsimp only at hSw); go_simp <;> with_reducible rfl
          try simp only [Act.put, List.setIfInBounds_toArray, List.set_cons_zero, List.set_cons_succ]
          refine wpAnyH_done (by kernel_rfl) ?_ _
          go_wp2_with fail
          go_meet
          exact ⟨bz, ar, cr, Ar, rfl, rfl, unhide RZ, unhide lz, unhide Sr, unhide hB2⟩
        refine AllReadyH.cons (o := { dst := some 6, op := Op.alloc 43, type := 0, pos := "exact.go:3559", after := #[], guard := none }) rfl (fun K hK => ?_) ?_
        · have lz := hide (show w2.heap.size ≤ V4.heap.size from (unhide hB2).size)
          go_simp
          replace RA := hide (row_next (al1_below V4 (.cells #[.slice none 0 0] 43)) (unhide RA))
          replace RB := hide (row_next (al1_below V4 (.cells #[.slice none 0 0] 43)) (unhide RB))
          replace hB2 := hide (below_two (unhide hB2) (al1_below V4 (.cells #[.slice none 0 0] 43)))
          replace St := hide ((unhide St).next (al1_below V4 (.cells #[.slice none 0 0] 43)))
          replace Nt := hide ((unhide Nt).next (al1_below V4 (.cells #[.slice none 0 0] 43)))
          refine hK.out _ _ ?_ (fun hHeld => ?_)
          · exact ⟨row1 (unhide RA), rowRng (unhide RB)⟩
          clear hK K
          try simp only [Act.put, List.setIfInBounds_toArray, List.set_cons_zero, List.set_cons_succ]
          have RZ := hide (new_row V4 (.cells #[.slice none 0 0] 43))
          generalize V4.alloc (.cells #[.slice none 0 0] 43) = V7 at RA RB St Nt RZ hB2 hHeld ⊢
          generalize V4.heap.size = bz at RZ lz ⊢
          refine wpAnyH_ready (rs := [4]) (by kernel_rfl) (by simp) ?_
          refine AllReadyH.cons (o := { dst := some 32, op := Op.call { callee := Callee.value (Operand.func 6), args := #[Operand.tmp 29, Operand.tmp 31], argTypes := #[43, 56] }, type := 44, pos := "exact.go:3559", after := #[{ on := 1, ground := Ground.data }, { on := 3, ground := Ground.data }, { on := 3, ground := Ground.chain }], guard := none }) rfl (fun K hK => ?_) AllReadyH.nil
          have hsz := hide (show w2.heap.size ≤ V7.heap.size from (unhide hB2).size)
          go_simp
          (go_at_call 6; go_fit (unhide S_ _ _ _ _ _ _ _ (unhide St) (unhide Nt)); rintro r V8 ⟨ar, cr, Ar, rfl, hp, hb⟩)
          replace RA := hide (row_next hb (unhide RA))
          replace RB := hide (row_next hb (unhide RB))
          replace hB2 := hide (below_two (unhide hB2) hb)
          replace RZ := hide (row_next hb (unhide RZ))
          replace St := hide ((unhide St).next hb)
          replace Nt := hide ((unhide Nt).next hb)
          refine hK.out _ _ ?_ (fun hHeld => ?_)
          · exact ⟨row1 (unhide RA), rowRng (unhide RB)⟩
          clear hK K
          try simp only [Act.put, List.setIfInBounds_toArray, List.set_cons_zero, List.set_cons_succ]
          have Sr := hide (hp.low (unhide hsz))
          clear hp hb hsz St Nt
          refine wpAnyH_take (i := 5) (oi := { dst := some 27, op := Op.move (Operand.tmp 32), type := 44, pos := "exact.go:3559", after := #[{ on := 4, ground := Ground.data }], guard := none }) (v := ?_) rfl (by kernel_rfl) (by kernel_rfl) (by kernel_rfl) (fun _ _ _ h => h) (Or.inl ⟨by rfl, ?_⟩) (by assumption) ?_
          rotate_left
          · intro w hSw; (try dsimp only at hSw); go_simp <;> with_reducible rfl
          try simp only [Act.put, List.setIfInBounds_toArray, List.set_cons_zero, List.set_cons_succ]
          refine wpAnyH_take (i := 6) (oi := { dst := some 33, op := Op.extract (Operand.tmp 27) 0, type := 43, pos := "exact.go:3559", after := #[{ on := 5, ground := Ground.data }], guard := none }) (v := ?_) rfl (by kernel_rfl) (by kernel_rfl) (by kernel_rfl) (fun _ _ _ h => h) (Or.inl ⟨by rfl, ?_⟩) (by assumption) ?_
          rotate_left
          · intro w hSw; (try dsimp only at hSw); go_simp <;> with_reducible rfl
          try simp only [Act.put, List.setIfInBounds_toArray, List.set_cons_zero, List.set_cons_succ]
          refine wpAnyH_take (i := 7) (oi := { dst := some 34, op := Op.extract (Operand.tmp 27) 1, type := 3, pos := "exact.go:3559", after := #[{ on := 5, ground := Ground.data }, { on := 9, ground := Ground.gcOnly Departure.lateStores }], guard := none }) (v := ?_) rfl (by kernel_rfl) (by kernel_rfl) (by kernel_rfl) (fun _ _ _ h => h) (Or.inl ⟨by rfl, ?_⟩) (by assumption) ?_
          rotate_left
          · intro w hSw; (try dsimp only at hSw); go_simp <;> with_reducible rfl
          try simp only [Act.put, List.setIfInBounds_toArray, List.set_cons_zero, List.set_cons_succ]
          refine wpAnyH_ready (rs := [9]) (by kernel_rfl) (by simp) ?_
          refine AllReadyH.cons (o := { dst := none, op := Op.store 43 (Operand.tmp 6) (Operand.tmp 33), type := 0, pos := "exact.go:3559", after := #[{ on := 8, ground := Ground.data }, { on := 6, ground := Ground.data }, { on := 4, ground := Ground.chain }, { on := 0, ground := Ground.phase }, { on := 1, ground := Ground.phase }, { on := 2, ground := Ground.phase }, { on := 3, ground := Ground.phase }, { on := 4, ground := Ground.phase }, { on := 5, ground := Ground.phase }, { on := 6, ground := Ground.phase }, { on := 7, ground := Ground.textOnly Departure.lateStores }, { on := 8, ground := Ground.phase }], guard := none }) rfl (fun K hK => ?_) AllReadyH.nil
          have cb := row1 (unhide RZ)
          have fb := frozen_of_row V8 bz 0 _ _ (unhide RZ)
          go_simp
          replace RA := hide (setc_other (b := bz) (j := 0) (v := (.slice ar M cr)) (by have h1 := unhide lz; have h2 := unhide CUR; have h3 := unhide ORD; omega) (unhide RA))
          replace RB := hide (setc_other (b := bz) (j := 0) (v := (.slice ar M cr)) (by have h1 := unhide lz; have h2 := unhide CUR; have h3 := unhide ORD; omega) (unhide RB))
          replace Sr := hide (show SG (V8.setCell ⟨bz, 0, none⟩ (.slice ar M cr)) w2.heap.size (V8.setCell ⟨bz, 0, none⟩ (.slice ar M cr)).heap.size ar M cr Y Ar by have h := (unhide Sr).setk (j := 0) (v := (.slice ar M cr)) (unhide RZ); simpa [World.setCell] using h)
          replace hB2 := hide ((unhide hB2).setCell (p := ⟨bz, 0, none⟩) (unhide lz) (.slice ar M cr))
          replace RZ := hide (show (V8.setCell ⟨bz, 0, none⟩ (.slice ar M cr)).heap[bz]? = some (.cells #[(.slice ar M cr)] 43 (0, 0)) by have := setC (v := (.slice ar M cr)) (j := 0) (unhide RZ); simpa using this)
          refine hK.out _ _ ?_ (fun hHeld => ?_)
          · exact ⟨row1 (unhide RA), rowRng (unhide RB)⟩
          clear hK K
          try simp only [Act.put, List.setIfInBounds_toArray, List.set_cons_zero, List.set_cons_succ]
          clear cb fb
          refine wpAnyH_take (i := 10) (oi := { dst := some 7, op := Op.assign (Operand.tmp 34), type := 3, pos := "exact.go:3559", after := #[{ on := 7, ground := Ground.data }, { on := 9, ground := Ground.chain }, { on := 0, ground := Ground.phase }, { on := 1, ground := Ground.phase }, { on := 2, ground := Ground.phase }, { on := 3, ground := Ground.phase }, { on := 4, ground := Ground.phase }, { on := 5, ground := Ground.phase }, { on := 6, ground := Ground.phase }, { on := 7, ground := Ground.phase }, { on := 8, ground := Ground.phase }, { on := 9, ground := Ground.phase }], guard := none }) (v := ?_) rfl (by kernel_rfl) (by kernel_rfl) (by kernel_rfl) (fun _ _ _ h => h) (Or.inl ⟨by rfl, ?_⟩) (by assumption) ?_
          rotate_left
          · intro w hSw; (try dsimp only at hSw); go_simp <;> with_reducible rfl
          try simp only [Act.put, List.setIfInBounds_toArray, List.set_cons_zero, List.set_cons_succ]
          refine wpAnyH_done (by kernel_rfl) ?_ _
          go_wp2_with fail
          go_meet
          exact ⟨bz, ar, cr, Ar, rfl, rfl, unhide RZ, unhide lz, unhide Sr, unhide hB2⟩
        exact AllReadyH.nil
      refine AllReadyH.cons (o := { dst := some 6, op := Op.alloc 43, type := 0, pos := "exact.go:3559", after := #[], guard := none }) rfl (fun K hK => ?_) ?_
      · have lz := hide (show w2.heap.size ≤ V3.heap.size from (unhide hB2).size)
        go_simp
        replace RA := hide (row_next (al1_below V3 (.cells #[.slice none 0 0] 43)) (unhide RA))
        replace RB := hide (row_next (al1_below V3 (.cells #[.slice none 0 0] 43)) (unhide RB))
        replace hB2 := hide (below_two (unhide hB2) (al1_below V3 (.cells #[.slice none 0 0] 43)))
        replace St := hide ((unhide St).next (al1_below V3 (.cells #[.slice none 0 0] 43)))
        refine hK.out _ _ ?_ (fun hHeld => ?_)
        · exact ⟨row1 (unhide RA), rowRng (unhide RB)⟩
        clear hK K
        try simp only [Act.put, List.setIfInBounds_toArray, List.set_cons_zero, List.set_cons_succ]
        have RZ := hide (new_row V3 (.cells #[.slice none 0 0] 43))
        generalize V3.alloc (.cells #[.slice none 0 0] 43) = V9 at RA RB St RZ hB2 hHeld ⊢
        generalize V3.heap.size = bz at RZ lz ⊢
        refine wpAnyH_ready (rs := [3]) (by kernel_rfl) (by simp) ?_
        refine AllReadyH.cons (o := { dst := some 31, op := Op.call { callee := Callee.value (Operand.func 8), args := #[Operand.tmp 30], argTypes := #[38] }, type := 56, pos := "exact.go:3559", after := #[{ on := 2, ground := Ground.data }, { on := 1, ground := Ground.chain }], guard := none }) rfl (fun K hK => ?_) AllReadyH.nil
        go_simp
        (go_at_call 8; go_fit (unhide TN_ _ (below_two (unhide HB) (unhide hB2))); rintro r V10 ⟨st, Kt, rfl, hp, h5, hb⟩)
        replace RA := hide (row_next hb (unhide RA))
        replace RB := hide (row_next hb (unhide RB))
        replace hB2 := hide (below_two (unhide hB2) hb)
        replace RZ := hide (row_next hb (unhide RZ))
        replace St := hide ((unhide St).next hb)
        refine hK.out _ _ ?_ (fun hHeld => ?_)
        · exact ⟨row1 (unhide RA), rowRng (unhide RB)⟩
        clear hK K
        try simp only [Act.put, List.setIfInBounds_toArray, List.set_cons_zero, List.set_cons_succ]
        have Nt := hide (hp.ndG h5)
        clear hp h5 hb
        refine wpAnyH_ready (rs := [4]) (by kernel_rfl) (by simp) ?_
        refine AllReadyH.cons (o := { dst := some 32, op := Op.call { callee := Callee.value (Operand.func 6), args := #[Operand.tmp 29, Operand.tmp 31], argTypes := #[43, 56] }, type := 44, pos := "exact.go:3559", after := #[{ on := 1, ground := Ground.data }, { on := 3, ground := Ground.data }, { on := 3, ground := Ground.chain }], guard := none }) rfl (fun K hK => ?_) AllReadyH.nil
        have hsz := hide (show w2.heap.size ≤ V10.heap.size from (unhide hB2).size)
        go_simp
        (go_at_call 6; go_fit (unhide S_ _ _ _ _ _ _ _ (unhide St) (unhide Nt)); rintro r V11 ⟨ar, cr, Ar, rfl, hp, hb⟩)
        replace RA := hide (row_next hb (unhide RA))
        replace RB := hide (row_next hb (unhide RB))
        replace hB2 := hide (below_two (unhide hB2) hb)
        replace RZ := hide (row_next hb (unhide RZ))
        replace St := hide ((unhide St).next hb)
        replace Nt := hide ((unhide Nt).next hb)
        refine hK.out _ _ ?_ (fun hHeld => ?_)
        · exact ⟨row1 (unhide RA), rowRng (unhide RB)⟩
        clear hK K
        try simp only [Act.put, List.setIfInBounds_toArray, List.set_cons_zero, List.set_cons_succ]
        have Sr := hide (hp.low (unhide hsz))
        clear hp hb hsz St Nt
        refine wpAnyH_take (i := 5) (oi := { dst := some 27, op := Op.move (Operand.tmp 32), type := 44, pos := "exact.go:3559", after := #[{ on := 4, ground := Ground.data }], guard := none }) (v := ?_) rfl (by kernel_rfl) (by kernel_rfl) (by kernel_rfl) (fun _ _ _ h => h) (Or.inl ⟨by rfl, ?_⟩) (by assumption) ?_
        rotate_left
        · intro w hSw; (try dsimp only at hSw); go_simp <;> with_reducible rfl
        try simp only [Act.put, List.setIfInBounds_toArray, List.set_cons_zero, List.set_cons_succ]
        refine wpAnyH_take (i := 6) (oi := { dst := some 33, op := Op.extract (Operand.tmp 27) 0, type := 43, pos := "exact.go:3559", after := #[{ on := 5, ground := Ground.data }], guard := none }) (v := ?_) rfl (by kernel_rfl) (by kernel_rfl) (by kernel_rfl) (fun _ _ _ h => h) (Or.inl ⟨by rfl, ?_⟩) (by assumption) ?_
        rotate_left
        · intro w hSw; (try dsimp only at hSw); go_simp <;> with_reducible rfl
        try simp only [Act.put, List.setIfInBounds_toArray, List.set_cons_zero, List.set_cons_succ]
        refine wpAnyH_take (i := 7) (oi := { dst := some 34, op := Op.extract (Operand.tmp 27) 1, type := 3, pos := "exact.go:3559", after := #[{ on := 5, ground := Ground.data }, { on := 9, ground := Ground.gcOnly Departure.lateStores }], guard := none }) (v := ?_) rfl (by kernel_rfl) (by kernel_rfl) (by kernel_rfl) (fun _ _ _ h => h) (Or.inl ⟨by rfl, ?_⟩) (by assumption) ?_
        rotate_left
        · intro w hSw; (try dsimp only at hSw); go_simp <;> with_reducible rfl
        try simp only [Act.put, List.setIfInBounds_toArray, List.set_cons_zero, List.set_cons_succ]
        refine wpAnyH_ready (rs := [9]) (by kernel_rfl) (by simp) ?_
        refine AllReadyH.cons (o := { dst := none, op := Op.store 43 (Operand.tmp 6) (Operand.tmp 33), type := 0, pos := "exact.go:3559", after := #[{ on := 8, ground := Ground.data }, { on := 6, ground := Ground.data }, { on := 4, ground := Ground.chain }, { on := 0, ground := Ground.phase }, { on := 1, ground := Ground.phase }, { on := 2, ground := Ground.phase }, { on := 3, ground := Ground.phase }, { on := 4, ground := Ground.phase }, { on := 5, ground := Ground.phase }, { on := 6, ground := Ground.phase }, { on := 7, ground := Ground.textOnly Departure.lateStores }, { on := 8, ground := Ground.phase }], guard := none }) rfl (fun K hK => ?_) AllReadyH.nil
        have cb := row1 (unhide RZ)
        have fb := frozen_of_row V11 bz 0 _ _ (unhide RZ)
        go_simp
        replace RA := hide (setc_other (b := bz) (j := 0) (v := (.slice ar M cr)) (by have h1 := unhide lz; have h2 := unhide CUR; have h3 := unhide ORD; omega) (unhide RA))
        replace RB := hide (setc_other (b := bz) (j := 0) (v := (.slice ar M cr)) (by have h1 := unhide lz; have h2 := unhide CUR; have h3 := unhide ORD; omega) (unhide RB))
        replace Sr := hide (show SG (V11.setCell ⟨bz, 0, none⟩ (.slice ar M cr)) w2.heap.size (V11.setCell ⟨bz, 0, none⟩ (.slice ar M cr)).heap.size ar M cr Y Ar by have h := (unhide Sr).setk (j := 0) (v := (.slice ar M cr)) (unhide RZ); simpa [World.setCell] using h)
        replace hB2 := hide ((unhide hB2).setCell (p := ⟨bz, 0, none⟩) (unhide lz) (.slice ar M cr))
        replace RZ := hide (show (V11.setCell ⟨bz, 0, none⟩ (.slice ar M cr)).heap[bz]? = some (.cells #[(.slice ar M cr)] 43 (0, 0)) by have := setC (v := (.slice ar M cr)) (j := 0) (unhide RZ); simpa using this)
        refine hK.out _ _ ?_ (fun hHeld => ?_)
        · exact ⟨row1 (unhide RA), rowRng (unhide RB)⟩
        clear hK K
        try simp only [Act.put, List.setIfInBounds_toArray, List.set_cons_zero, List.set_cons_succ]
        clear cb fb
        refine wpAnyH_take (i := 10) (oi := { dst := some 7, op := Op.assign (Operand.tmp 34), type := 3, pos := "exact.go:3559", after := #[{ on := 7, ground := Ground.data }, { on := 9, ground := Ground.chain }, { on := 0, ground := Ground.phase }, { on := 1, ground := Ground.phase }, { on := 2, ground := Ground.phase }, { on := 3, ground := Ground.phase }, { on := 4, ground := Ground.phase }, { on := 5, ground := Ground.phase }, { on := 6, ground := Ground.phase }, { on := 7, ground := Ground.phase }, { on := 8, ground := Ground.phase }, { on := 9, ground := Ground.phase }], guard := none }) (v := ?_) rfl (by kernel_rfl) (by kernel_rfl) (by kernel_rfl) (fun _ _ _ h => h) (Or.inl ⟨by rfl, ?_⟩) (by assumption) ?_
        rotate_left
        · intro w hSw; (try dsimp only at hSw); go_simp <;> with_reducible rfl
        try simp only [Act.put, List.setIfInBounds_toArray, List.set_cons_zero, List.set_cons_succ]
        refine wpAnyH_done (by kernel_rfl) ?_ _
        go_wp2_with fail
        go_meet
        exact ⟨bz, ar, cr, Ar, rfl, rfl, unhide RZ, unhide lz, unhide Sr, unhide hB2⟩
      exact AllReadyH.nil
    refine AllReadyH.cons (o := { dst := some 6, op := Op.alloc 43, type := 0, pos := "exact.go:3559", after := #[], guard := none }) rfl (fun K hK => ?_) ?_
    · have lz := hide (show w2.heap.size ≤ V0.heap.size from (unhide hB2).size)
      go_simp
      replace RA := hide (row_next (al1_below V0 (.cells #[.slice none 0 0] 43)) (unhide RA))
      replace RB := hide (row_next (al1_below V0 (.cells #[.slice none 0 0] 43)) (unhide RB))
      replace hB2 := hide (below_two (unhide hB2) (al1_below V0 (.cells #[.slice none 0 0] 43)))
      refine hK.out _ _ ?_ (fun hHeld => ?_)
      · exact ⟨row1 (unhide RA), rowRng (unhide RB)⟩
      clear hK K
      try simp only [Act.put, List.setIfInBounds_toArray, List.set_cons_zero, List.set_cons_succ]
      have RZ := hide (new_row V0 (.cells #[.slice none 0 0] 43))
      generalize V0.alloc (.cells #[.slice none 0 0] 43) = V12 at RA RB RZ hB2 hHeld ⊢
      generalize V0.heap.size = bz at RZ lz ⊢
      refine wpAnyH_ready (rs := [1]) (by kernel_rfl) (by simp) ?_
      refine AllReadyH.cons (o := { dst := some 29, op := Op.call { callee := Callee.value (Operand.func 7), args := #[Operand.tmp 28], argTypes := #[24] }, type := 43, pos := "exact.go:3559", after := #[{ on := 0, ground := Ground.data }], guard := none }) rfl (fun K hK => ?_) AllReadyH.nil
      go_simp
      (go_at_call 7; go_fit (unhide T _ (below_two (unhide HB) (unhide hB2))); rintro r V13 ⟨at_, At, rfl, hp, hb⟩)
      replace RA := hide (row_next hb (unhide RA))
      replace RB := hide (row_next hb (unhide RB))
      replace hB2 := hide (below_two (unhide hB2) hb)
      replace RZ := hide (row_next hb (unhide RZ))
      refine hK.out _ _ ?_ (fun hHeld => ?_)
      · exact ⟨row1 (unhide RA), rowRng (unhide RB)⟩
      clear hK K
      try simp only [Act.put, List.setIfInBounds_toArray, List.set_cons_zero, List.set_cons_succ]
      have St := hide hp.sg
      clear hp hb
      refine wpAnyH_ready (rs := [3]) (by kernel_rfl) (by simp) ?_
      refine AllReadyH.cons (o := { dst := some 31, op := Op.call { callee := Callee.value (Operand.func 8), args := #[Operand.tmp 30], argTypes := #[38] }, type := 56, pos := "exact.go:3559", after := #[{ on := 2, ground := Ground.data }, { on := 1, ground := Ground.chain }], guard := none }) rfl (fun K hK => ?_) AllReadyH.nil
      go_simp
      (go_at_call 8; go_fit (unhide TN_ _ (below_two (unhide HB) (unhide hB2))); rintro r V14 ⟨st, Kt, rfl, hp, h5, hb⟩)
      replace RA := hide (row_next hb (unhide RA))
      replace RB := hide (row_next hb (unhide RB))
      replace hB2 := hide (below_two (unhide hB2) hb)
      replace RZ := hide (row_next hb (unhide RZ))
      replace St := hide ((unhide St).next hb)
      refine hK.out _ _ ?_ (fun hHeld => ?_)
      · exact ⟨row1 (unhide RA), rowRng (unhide RB)⟩
      clear hK K
      try simp only [Act.put, List.setIfInBounds_toArray, List.set_cons_zero, List.set_cons_succ]
      have Nt := hide (hp.ndG h5)
      clear hp h5 hb
      refine wpAnyH_ready (rs := [4]) (by kernel_rfl) (by simp) ?_
      refine AllReadyH.cons (o := { dst := some 32, op := Op.call { callee := Callee.value (Operand.func 6), args := #[Operand.tmp 29, Operand.tmp 31], argTypes := #[43, 56] }, type := 44, pos := "exact.go:3559", after := #[{ on := 1, ground := Ground.data }, { on := 3, ground := Ground.data }, { on := 3, ground := Ground.chain }], guard := none }) rfl (fun K hK => ?_) AllReadyH.nil
      have hsz := hide (show w2.heap.size ≤ V14.heap.size from (unhide hB2).size)
      go_simp
      (go_at_call 6; go_fit (unhide S_ _ _ _ _ _ _ _ (unhide St) (unhide Nt)); rintro r V15 ⟨ar, cr, Ar, rfl, hp, hb⟩)
      replace RA := hide (row_next hb (unhide RA))
      replace RB := hide (row_next hb (unhide RB))
      replace hB2 := hide (below_two (unhide hB2) hb)
      replace RZ := hide (row_next hb (unhide RZ))
      replace St := hide ((unhide St).next hb)
      replace Nt := hide ((unhide Nt).next hb)
      refine hK.out _ _ ?_ (fun hHeld => ?_)
      · exact ⟨row1 (unhide RA), rowRng (unhide RB)⟩
      clear hK K
      try simp only [Act.put, List.setIfInBounds_toArray, List.set_cons_zero, List.set_cons_succ]
      have Sr := hide (hp.low (unhide hsz))
      clear hp hb hsz St Nt
      refine wpAnyH_take (i := 5) (oi := { dst := some 27, op := Op.move (Operand.tmp 32), type := 44, pos := "exact.go:3559", after := #[{ on := 4, ground := Ground.data }], guard := none }) (v := ?_) rfl (by kernel_rfl) (by kernel_rfl) (by kernel_rfl) (fun _ _ _ h => h) (Or.inl ⟨by rfl, ?_⟩) (by assumption) ?_
      rotate_left
      · intro w hSw; (try dsimp only at hSw); go_simp <;> with_reducible rfl
      try simp only [Act.put, List.setIfInBounds_toArray, List.set_cons_zero, List.set_cons_succ]
      refine wpAnyH_take (i := 6) (oi := { dst := some 33, op := Op.extract (Operand.tmp 27) 0, type := 43, pos := "exact.go:3559", after := #[{ on := 5, ground := Ground.data }], guard := none }) (v := ?_) rfl (by kernel_rfl) (by kernel_rfl) (by kernel_rfl) (fun _ _ _ h => h) (Or.inl ⟨by rfl, ?_⟩) (by assumption) ?_
      rotate_left
      · intro w hSw; (try dsimp only at hSw); go_simp <;> with_reducible rfl
      try simp only [Act.put, List.setIfInBounds_toArray, List.set_cons_zero, List.set_cons_succ]
      refine wpAnyH_take (i := 7) (oi := { dst := some 34, op := Op.extract (Operand.tmp 27) 1, type := 3, pos := "exact.go:3559", after := #[{ on := 5, ground := Ground.data }, { on := 9, ground := Ground.gcOnly Departure.lateStores }], guard := none }) (v := ?_) rfl (by kernel_rfl) (by kernel_rfl) (by kernel_rfl) (fun _ _ _ h => h) (Or.inl ⟨by rfl, ?_⟩) (by assumption) ?_
      rotate_left
      · intro w hSw; (try dsimp only at hSw); go_simp <;> with_reducible rfl
      try simp only [Act.put, List.setIfInBounds_toArray, List.set_cons_zero, List.set_cons_succ]
      refine wpAnyH_ready (rs := [9]) (by kernel_rfl) (by simp) ?_
      refine AllReadyH.cons (o := { dst := none, op := Op.store 43 (Operand.tmp 6) (Operand.tmp 33), type := 0, pos := "exact.go:3559", after := #[{ on := 8, ground := Ground.data }, { on := 6, ground := Ground.data }, { on := 4, ground := Ground.chain }, { on := 0, ground := Ground.phase }, { on := 1, ground := Ground.phase }, { on := 2, ground := Ground.phase }, { on := 3, ground := Ground.phase }, { on := 4, ground := Ground.phase }, { on := 5, ground := Ground.phase }, { on := 6, ground := Ground.phase }, { on := 7, ground := Ground.textOnly Departure.lateStores }, { on := 8, ground := Ground.phase }], guard := none }) rfl (fun K hK => ?_) AllReadyH.nil
      have cb := row1 (unhide RZ)
      have fb := frozen_of_row V15 bz 0 _ _ (unhide RZ)
      go_simp
      replace RA := hide (setc_other (b := bz) (j := 0) (v := (.slice ar M cr)) (by have h1 := unhide lz; have h2 := unhide CUR; have h3 := unhide ORD; omega) (unhide RA))
      replace RB := hide (setc_other (b := bz) (j := 0) (v := (.slice ar M cr)) (by have h1 := unhide lz; have h2 := unhide CUR; have h3 := unhide ORD; omega) (unhide RB))
      replace Sr := hide (show SG (V15.setCell ⟨bz, 0, none⟩ (.slice ar M cr)) w2.heap.size (V15.setCell ⟨bz, 0, none⟩ (.slice ar M cr)).heap.size ar M cr Y Ar by have h := (unhide Sr).setk (j := 0) (v := (.slice ar M cr)) (unhide RZ); simpa [World.setCell] using h)
      replace hB2 := hide ((unhide hB2).setCell (p := ⟨bz, 0, none⟩) (unhide lz) (.slice ar M cr))
      replace RZ := hide (show (V15.setCell ⟨bz, 0, none⟩ (.slice ar M cr)).heap[bz]? = some (.cells #[(.slice ar M cr)] 43 (0, 0)) by have := setC (v := (.slice ar M cr)) (j := 0) (unhide RZ); simpa using this)
      refine hK.out _ _ ?_ (fun hHeld => ?_)
      · exact ⟨row1 (unhide RA), rowRng (unhide RB)⟩
      clear hK K
      try simp only [Act.put, List.setIfInBounds_toArray, List.set_cons_zero, List.set_cons_succ]
      clear cb fb
      refine wpAnyH_take (i := 10) (oi := { dst := some 7, op := Op.assign (Operand.tmp 34), type := 3, pos := "exact.go:3559", after := #[{ on := 7, ground := Ground.data }, { on := 9, ground := Ground.chain }, { on := 0, ground := Ground.phase }, { on := 1, ground := Ground.phase }, { on := 2, ground := Ground.phase }, { on := 3, ground := Ground.phase }, { on := 4, ground := Ground.phase }, { on := 5, ground := Ground.phase }, { on := 6, ground := Ground.phase }, { on := 7, ground := Ground.phase }, { on := 8, ground := Ground.phase }, { on := 9, ground := Ground.phase }], guard := none }) (v := ?_) rfl (by kernel_rfl) (by kernel_rfl) (by kernel_rfl) (fun _ _ _ h => h) (Or.inl ⟨by rfl, ?_⟩) (by assumption) ?_
      rotate_left
      · intro w hSw; (try dsimp only at hSw); go_simp <;> with_reducible rfl
      try simp only [Act.put, List.setIfInBounds_toArray, List.set_cons_zero, List.set_cons_succ]
      refine wpAnyH_done (by kernel_rfl) ?_ _
      go_wp2_with fail
      go_meet
      exact ⟨bz, ar, cr, Ar, rfl, rfl, unhide RZ, unhide lz, unhide Sr, unhide hB2⟩
    exact AllReadyH.nil
  case rest =>
  obtain ⟨b_R0, a_0, c_0, A_0, rfl, rfl, R0, hge, S0, hb⟩ := hcut
  have hlt := hide (heap_lt R0)
  replace R0 := hide R0
  replace S0 := hide S0
  replace hge := hide hge
  generalize wc = Q16 at R0 S0 hlt hb ⊢
  have lo0 := CUR
  replace RA := hide (row_next hb (unhide RA))
  replace RB := hide (row_next hb (unhide RB))
  replace HB := hide (below_two (unhide HB) hb)
  replace CUR := hide (Nat.le_trans (unhide CUR) (Below.size hb))
  clear hb
  obtain ⟨hi_0, hhi⟩ : ∃ h, h = Q16.heap.size := ⟨_, rfl⟩
  replace CUR := hide (show hi_0 ≤ Q16.heap.size by rw [hhi]; exact Nat.le_refl _)
  rw [← hhi] at S0 hlt
  clear hhi
  generalize w2.heap.size = lo_0 at S0 lo0 hge
  replace ORD := hide (And.intro (unhide ORD) (And.intro (unhide lo0) (And.intro (unhide hge) (unhide hlt))))
  clear lo0 hge hlt
  have q_RA := row1 (unhide RA)
  go_wp2_with fail
  go_fit (unhide T _ (unhide HB))
  rintro r w17 ⟨a_x, A_x, rfl, hp, hb⟩
  clear q_RA
  have Sx := hide (hp.sg)
  have lo0 := CUR
  have lo1 := hide (Below.size hb)
  replace RA := hide (row_next hb (unhide RA))
  replace RB := hide (row_next hb (unhide RB))
  replace R0 := hide (row_next hb (unhide R0))
  replace S0 := hide ((unhide S0).next hb)
  replace HB := hide (below_two (unhide HB) hb)
  replace CUR := hide (Nat.le_trans (unhide CUR) (Below.size hb))
  clear hb
  obtain ⟨hi_x, hhi⟩ : ∃ h, h = w17.heap.size := ⟨_, rfl⟩
  replace CUR := hide (show hi_x ≤ w17.heap.size by rw [hhi]; exact Nat.le_refl _)
  rw [← hhi] at Sx lo1
  clear hhi
  generalize Q16.heap.size = lo_x at Sx lo0 lo1
  replace ORD := hide (And.intro (unhide ORD) (And.intro (unhide lo0) (unhide lo1)))
  clear lo0 lo1
  go_upto_region 10 with fail
  have lo0 := CUR
  have RX := hide (new_row w17 (.cells #[.slice a_x n n] 43))
  have hb := al1_below w17 (.cells #[.slice a_x n n] 43)
  replace RA := hide (row_next hb (unhide RA))
  replace RB := hide (row_next hb (unhide RB))
  replace R0 := hide (row_next hb (unhide R0))
  replace S0 := hide ((unhide S0).next hb)
  replace Sx := hide ((unhide Sx).next hb)
  replace HB := hide (below_two (unhide HB) hb)
  replace CUR := hide (Nat.le_trans (unhide CUR) (Below.size hb))
  clear hb
  replace CUR := hide (show w17.heap.size + 1 ≤ (w17.alloc (.cells #[.slice a_x n n] 43)).heap.size by rw [al1_size]; exact Nat.le_refl _)
  generalize w17.alloc (.cells #[.slice a_x n n] 43) = W18 at RA RB R0 S0 Sx RX HB CUR ⊢
  generalize w17.heap.size = b_RX at RX CUR lo0 ⊢
  replace ORD := hide (And.intro (unhide ORD) (unhide lo0))
  clear lo0
  go_wp2_with (refine load_lown rfl _ rfl b_RB rfl x s 38 (unhide RB) ?_)
  go_fit (unhide TN_ _ (unhide HB))
  rintro r w19 ⟨s1, K1, rfl, hp, h5, hb⟩
  have Sn := hide ((hp.ndG h5).ndT)
  have lo0 := CUR
  have lo1 := hide (Below.size hb)
  replace RA := hide (row_next hb (unhide RA))
  replace RB := hide (row_next hb (unhide RB))
  replace R0 := hide (row_next hb (unhide R0))
  replace RX := hide (row_next hb (unhide RX))
  replace S0 := hide ((unhide S0).next hb)
  replace Sx := hide ((unhide Sx).next hb)
  replace HB := hide (below_two (unhide HB) hb)
  replace CUR := hide (Nat.le_trans (unhide CUR) (Below.size hb))
  clear hb
  obtain ⟨hi_n, hhi⟩ : ∃ h, h = w19.heap.size := ⟨_, rfl⟩
  replace CUR := hide (show hi_n ≤ w19.heap.size by rw [hhi]; exact Nat.le_refl _)
  rw [← hhi] at Sn lo1
  clear hhi
  generalize W18.heap.size = lo_n at Sn lo0 lo1
  replace ORD := hide (And.intro (unhide ORD) (And.intro (unhide lo0) (unhide lo1)))
  clear lo0 lo1
  go_upto_region 11 with (with_reducible refine store_new rfl _ _ rfl _ x s1 rfl rfl rfl ?_)
  have lo0 := CUR
  have RN := hide (new_row w19 (.cells (ndC x s1) 56))
  have hb := al1_below w19 (.cells (ndC x s1) 56)
  replace RA := hide (row_next hb (unhide RA))
  replace RB := hide (row_next hb (unhide RB))
  replace R0 := hide (row_next hb (unhide R0))
  replace RX := hide (row_next hb (unhide RX))
  replace S0 := hide ((unhide S0).next hb)
  replace Sx := hide ((unhide Sx).next hb)
  replace Sn := hide ((unhide Sn).next hb)
  replace HB := hide (below_two (unhide HB) hb)
  replace CUR := hide (Nat.le_trans (unhide CUR) (Below.size hb))
  clear hb
  replace CUR := hide (show w19.heap.size + 1 ≤ (w19.alloc (.cells (ndC x s1) 56)).heap.size by rw [al1_size]; exact Nat.le_refl _)
  generalize w19.alloc (.cells (ndC x s1) 56) = W20 at RA RB R0 RX S0 Sx Sn RN HB CUR ⊢
  generalize w19.heap.size = b_RN at RN CUR lo0 ⊢
  replace ORD := hide (And.intro (unhide ORD) (unhide lo0))
  clear lo0
  have q_RX := row1 (unhide RX)
  go_wp2_with (refine load_own rfl _ rfl b_RN rfl x s1 56 (unhide RN) ?_)
  go_fit (unhide I_ _ _ _ _ _ _ _ (unhide Sx) (unhide Sn).1 (unhide HB))
  rintro r w21 ⟨a_g, c_g, A_g, rfl, hp, hb⟩
  clear q_RX
  have Sg := hide (hp)
  have lo0 := CUR
  have lo1 := hide (Below.size hb)
  replace RA := hide (row_next hb (unhide RA))
  replace RB := hide (row_next hb (unhide RB))
  replace R0 := hide (row_next hb (unhide R0))
  replace RX := hide (row_next hb (unhide RX))
  replace RN := hide (row_next hb (unhide RN))
  replace S0 := hide ((unhide S0).next hb)
  replace Sx := hide ((unhide Sx).next hb)
  replace Sn := hide ((unhide Sn).next hb)
  replace HB := hide (below_two (unhide HB) hb)
  replace CUR := hide (Nat.le_trans (unhide CUR) (Below.size hb))
  clear hb
  obtain ⟨hi_g, hhi⟩ : ∃ h, h = w21.heap.size := ⟨_, rfl⟩
  replace CUR := hide (show hi_g ≤ w21.heap.size by rw [hhi]; exact Nat.le_refl _)
  rw [← hhi] at Sg lo1
  clear hhi
  generalize W20.heap.size = lo_g at Sg lo0 lo1
  replace ORD := hide (And.intro (unhide ORD) (And.intro (unhide lo0) (unhide lo1)))
  clear lo0 lo1
  go_upto_region 12 with fail
  have lo0 := CUR
  have RG := hide (new_row w21 (.cells #[.slice a_g M c_g] 43))
  have hb := al1_below w21 (.cells #[.slice a_g M c_g] 43)
  replace RA := hide (row_next hb (unhide RA))
  replace RB := hide (row_next hb (unhide RB))
  replace R0 := hide (row_next hb (unhide R0))
  replace RX := hide (row_next hb (unhide RX))
  replace RN := hide (row_next hb (unhide RN))
  replace S0 := hide ((unhide S0).next hb)
  replace Sx := hide ((unhide Sx).next hb)
  replace Sn := hide ((unhide Sn).next hb)
  replace Sg := hide ((unhide Sg).next hb)
  replace HB := hide (below_two (unhide HB) hb)
  replace CUR := hide (Nat.le_trans (unhide CUR) (Below.size hb))
  clear hb
  replace CUR := hide (show w21.heap.size + 1 ≤ (w21.alloc (.cells #[.slice a_g M c_g] 43)).heap.size by rw [al1_size]; exact Nat.le_refl _)
  generalize w21.alloc (.cells #[.slice a_g M c_g] 43) = W22 at RA RB R0 RX RN S0 Sx Sn Sg RG HB CUR ⊢
  generalize w21.heap.size = b_RG at RG CUR lo0 ⊢
  replace ORD := hide (And.intro (unhide ORD) (unhide lo0))
  clear lo0
  have q_RG := row1 (unhide RG)
  have q_R0 := row1 (unhide R0)
  go_wp2_with fail
  go_fit (unhide EY _ _ _ _ _ _ _ _ _ _ _ (unhide Sg) (unhide S0))
  rintro r w23 ⟨rfl, hb⟩
  clear q_RG q_R0
  replace RA := hide (row_next hb (unhide RA))
  replace RB := hide (row_next hb (unhide RB))
  replace R0 := hide (row_next hb (unhide R0))
  replace RX := hide (row_next hb (unhide RX))
  replace RN := hide (row_next hb (unhide RN))
  replace RG := hide (row_next hb (unhide RG))
  replace S0 := hide ((unhide S0).next hb)
  replace Sx := hide ((unhide Sx).next hb)
  replace Sn := hide ((unhide Sn).next hb)
  replace Sg := hide ((unhide Sg).next hb)
  replace HB := hide (below_two (unhide HB) hb)
  replace CUR := hide (Nat.le_trans (unhide CUR) (Below.size hb))
  clear hb
  go_upto_region 14 with fail
  refine wp_region_held_drew (S := (fun u => u.cell? ⟨b_RX, 0, none⟩ = some (.slice a_x n n) ∧ u.cell? ⟨b_RA, 0, none⟩ = some (.slice ao n cp))) (by kernel_rfl) ?_ (fun hHeld => ?_)
  · exact ⟨row1 (unhide RX), row1 (unhide RA)⟩
  have hB2 := hide (show Below w23.heap.size w23 w23.drew from (Below.refl _ _).drew)
  replace RA := hide (row_next (unhide hB2) (unhide RA))
  replace RB := hide (row_next (unhide hB2) (unhide RB))
  replace R0 := hide (row_next (unhide hB2) (unhide R0))
  replace RX := hide (row_next (unhide hB2) (unhide RX))
  replace RN := hide (row_next (unhide hB2) (unhide RN))
  replace RG := hide (row_next (unhide hB2) (unhide RG))
  replace S0 := hide ((unhide S0).next (unhide hB2))
  replace Sx := hide ((unhide Sx).next (unhide hB2))
  replace Sn := hide ((unhide Sn).next (unhide hB2))
  replace Sg := hide ((unhide Sg).next (unhide hB2))
  generalize w23.drew = V0 at RA RB R0 RX RN RG S0 Sx Sn Sg hB2 hHeld ⊢
  refine wpAnyH_take (i := 0) (oi := { dst := some 54, op := Op.load 43 (Operand.tmp 8), type := 43, pos := "exact.go:3566", after := #[], guard := none }) (v := ?_) rfl (by kernel_rfl) (by kernel_rfl) (by kernel_rfl) (fun _ _ _ h => h) (Or.inl ⟨by rfl, ?_⟩) (by assumption) ?_
  rotate_left
  · intro w hSw; (try dsimp only at hSw); go_simp <;> with_reducible rfl
  try simp only [Act.put, List.setIfInBounds_toArray, List.set_cons_zero, List.set_cons_succ]
  refine wpAnyH_take (i := 1) (oi := { dst := some 55, op := Op.load 24 (Operand.tmp 2), type := 24, pos := "exact.go:3566", after := #[], guard := none }) (v := ?_) rfl (by kernel_rfl) (by kernel_rfl) (by kernel_rfl) (fun _ _ _ h => h) (Or.inl ⟨by rfl, ?_⟩) (by assumption) ?_
  rotate_left
  · intro w hSw; (try dsimp only at hSw); go_simp <;> with_reducible rfl
  try simp only [Act.put, List.setIfInBounds_toArray, List.set_cons_zero, List.set_cons_succ]
  refine wpAnyH_ready (rs := [2]) (by kernel_rfl) (by simp) ?_
  refine AllReadyH.cons (o := { dst := some 56, op := Op.call { callee := Callee.value (Operand.func 7), args := #[Operand.tmp 55], argTypes := #[24] }, type := 43, pos := "exact.go:3566", after := #[{ on := 1, ground := Ground.data }], guard := none }) rfl (fun K hK => ?_) AllReadyH.nil
  go_simp
  (go_at_call 7; go_fit (unhide T _ (below_two (unhide HB) (unhide hB2))); rintro r V24 ⟨a_v, A_v, rfl, hp, hb⟩)
  replace RA := hide (row_next hb (unhide RA))
  replace RB := hide (row_next hb (unhide RB))
  replace R0 := hide (row_next hb (unhide R0))
  replace RX := hide (row_next hb (unhide RX))
  replace RN := hide (row_next hb (unhide RN))
  replace RG := hide (row_next hb (unhide RG))
  replace S0 := hide ((unhide S0).next hb)
  replace Sx := hide ((unhide Sx).next hb)
  replace Sn := hide ((unhide Sn).next hb)
  replace Sg := hide ((unhide Sg).next hb)
  replace hB2 := hide (below_two (unhide hB2) hb)
  refine hK.out _ _ ?_ (fun hHeld => ?_)
  · exact ⟨row1 (unhide RX), row1 (unhide RA)⟩
  clear hK K
  try simp only [Act.put, List.setIfInBounds_toArray, List.set_cons_zero, List.set_cons_succ]
  replace hp := hide hp
  clear hb
  refine wpAnyH_ready (rs := [3]) (by kernel_rfl) (by simp) ?_
  refine AllReadyH.cons (o := { dst := some 57, op := Op.call { callee := Callee.value (Operand.func 10), args := #[Operand.tmp 54, Operand.tmp 56], argTypes := #[43, 43] }, type := 4, pos := "exact.go:3566", after := #[{ on := 0, ground := Ground.data }, { on := 2, ground := Ground.data }, { on := 2, ground := Ground.chain }], guard := none }) rfl (fun K hK => ?_) AllReadyH.nil
  go_simp
  (go_at_call 10; go_fit (unhide EX _ _ _ _ _ _ _ _ (unhide Sx) (unhide hp)); rintro r V25 ⟨rfl, hb⟩)
  replace RA := hide (row_next hb (unhide RA))
  replace RB := hide (row_next hb (unhide RB))
  replace R0 := hide (row_next hb (unhide R0))
  replace RX := hide (row_next hb (unhide RX))
  replace RN := hide (row_next hb (unhide RN))
  replace RG := hide (row_next hb (unhide RG))
  replace S0 := hide ((unhide S0).next hb)
  replace Sx := hide ((unhide Sx).next hb)
  replace Sn := hide ((unhide Sn).next hb)
  replace Sg := hide ((unhide Sg).next hb)
  replace hB2 := hide (below_two (unhide hB2) hb)
  refine hK.out _ _ ?_ (fun hHeld => ?_)
  · exact ⟨row1 (unhide RX), row1 (unhide RA)⟩
  clear hK K
  try simp only [Act.put, List.setIfInBounds_toArray, List.set_cons_zero, List.set_cons_succ]
  clear hb hp
  refine wpAnyH_take (i := 4) (oi := { dst := some 58, op := Op.unOp UnOp.not 4 (Operand.tmp 57), type := 4, pos := "exact.go:3566", after := #[{ on := 3, ground := Ground.data }], guard := none }) (v := ?_) rfl (by kernel_rfl) (by kernel_rfl) (by kernel_rfl) (fun _ _ _ h => h) (Or.inl ⟨by rfl, ?_⟩) (by assumption) ?_
  rotate_left
  · intro w hSw; (try dsimp only at hSw); go_simp <;> with_reducible rfl
  try simp only [Act.put, List.setIfInBounds_toArray, List.set_cons_zero, List.set_cons_succ]
  refine wpAnyH_done (by kernel_rfl) ?_ _
  replace CUR := hide (Nat.le_trans (unhide CUR) (Below.size (unhide hB2)))
  replace HB := hide (below_two (unhide HB) (unhide hB2))
  clear hB2
  go_upto_region 16 with fail
  refine wp_region_held_drew (S := (fun u => u.rangeAt b_RN 0 (ndC x s1).toList ∧ u.rangeAt b_RB 0 (ndC x s).toList)) (by kernel_rfl) ?_ (fun hHeld => ?_)
  · exact ⟨rowRng (unhide RN), rowRng (unhide RB)⟩
  have hB2 := hide (show Below V25.heap.size V25 V25.drew from (Below.refl _ _).drew)
  replace RA := hide (row_next (unhide hB2) (unhide RA))
  replace RB := hide (row_next (unhide hB2) (unhide RB))
  replace R0 := hide (row_next (unhide hB2) (unhide R0))
  replace RX := hide (row_next (unhide hB2) (unhide RX))
  replace RN := hide (row_next (unhide hB2) (unhide RN))
  replace RG := hide (row_next (unhide hB2) (unhide RG))
  replace S0 := hide ((unhide S0).next (unhide hB2))
  replace Sx := hide ((unhide Sx).next (unhide hB2))
  replace Sn := hide ((unhide Sn).next (unhide hB2))
  replace Sg := hide ((unhide Sg).next (unhide hB2))
  generalize V25.drew = V0 at RA RB R0 RX RN RG S0 Sx Sn Sg hB2 hHeld ⊢
  refine wpAnyH_take (i := 0) (oi := { dst := some 59, op := Op.load 56 (Operand.tmp 9), type := 56, pos := "exact.go:3569", after := #[], guard := none }) (v := .agg (ndC x s1)) rfl (by kernel_rfl) (by kernel_rfl) (by kernel_rfl) (fun _ _ _ h => h) (yields_node (by rfl) _ rfl b_RN 0 rfl x s1 (fun w h => h.1)) (by assumption) ?_
  try simp only [Act.put, List.setIfInBounds_toArray, List.set_cons_zero, List.set_cons_succ]
  refine wpAnyH_take (i := 1) (oi := { dst := some 60, op := Op.load 38 (Operand.tmp 3), type := 38, pos := "exact.go:3569", after := #[], guard := none }) (v := .agg (ndC x s)) rfl (by kernel_rfl) (by kernel_rfl) (by kernel_rfl) (fun _ _ _ h => h) (yields_lnode (by rfl) _ rfl b_RB 0 rfl x s (fun w h => h.2)) (by assumption) ?_
  try simp only [Act.put, List.setIfInBounds_toArray, List.set_cons_zero, List.set_cons_succ]
  refine wpAnyH_ready (rs := [2]) (by kernel_rfl) (by simp) ?_
  refine AllReadyH.cons (o := { dst := some 61, op := Op.call { callee := Callee.value (Operand.func 8), args := #[Operand.tmp 60], argTypes := #[38] }, type := 56, pos := "exact.go:3569", after := #[{ on := 1, ground := Ground.data }], guard := none }) rfl (fun K hK => ?_) AllReadyH.nil
  go_simp
  (go_at_call 8; go_fit (unhide TN_ _ (below_two (unhide HB) (unhide hB2))); rintro r V26 ⟨s_v, K_v, rfl, hp, h5, hb⟩)
  replace RA := hide (row_next hb (unhide RA))
  replace RB := hide (row_next hb (unhide RB))
  replace R0 := hide (row_next hb (unhide R0))
  replace RX := hide (row_next hb (unhide RX))
  replace RN := hide (row_next hb (unhide RN))
  replace RG := hide (row_next hb (unhide RG))
  replace S0 := hide ((unhide S0).next hb)
  replace Sx := hide ((unhide Sx).next hb)
  replace Sn := hide ((unhide Sn).next hb)
  replace Sg := hide ((unhide Sg).next hb)
  replace hB2 := hide (below_two (unhide hB2) hb)
  refine hK.out _ _ ?_ (fun hHeld => ?_)
  · exact ⟨rowRng (unhide RN), rowRng (unhide RB)⟩
  clear hK K
  try simp only [Act.put, List.setIfInBounds_toArray, List.set_cons_zero, List.set_cons_succ]
  replace hp := hide hp
  clear hb
  refine wpAnyH_ready (rs := [3]) (by kernel_rfl) (by simp) ?_
  refine AllReadyH.cons (o := { dst := some 62, op := Op.call { callee := Callee.value (Operand.func 11), args := #[Operand.tmp 59, Operand.tmp 61], argTypes := #[56, 56] }, type := 4, pos := "exact.go:3569", after := #[{ on := 0, ground := Ground.data }, { on := 2, ground := Ground.data }, { on := 2, ground := Ground.chain }], guard := none }) rfl (fun K hK => ?_) AllReadyH.nil
  go_simp
  (go_at_call 11; go_fit (unhide EN_ _ _ _ (lists_in (unhide Sn).1.own) (unhide hp).inn); rintro r V27 ⟨rfl, hb⟩)
  replace RA := hide (row_next hb (unhide RA))
  replace RB := hide (row_next hb (unhide RB))
  replace R0 := hide (row_next hb (unhide R0))
  replace RX := hide (row_next hb (unhide RX))
  replace RN := hide (row_next hb (unhide RN))
  replace RG := hide (row_next hb (unhide RG))
  replace S0 := hide ((unhide S0).next hb)
  replace Sx := hide ((unhide Sx).next hb)
  replace Sn := hide ((unhide Sn).next hb)
  replace Sg := hide ((unhide Sg).next hb)
  replace hB2 := hide (below_two (unhide hB2) hb)
  refine hK.out _ _ ?_ (fun hHeld => ?_)
  · exact ⟨rowRng (unhide RN), rowRng (unhide RB)⟩
  clear hK K
  try simp only [Act.put, List.setIfInBounds_toArray, List.set_cons_zero, List.set_cons_succ]
  clear hb hp
  refine wpAnyH_take (i := 4) (oi := { dst := some 63, op := Op.unOp UnOp.not 4 (Operand.tmp 62), type := 4, pos := "exact.go:3569", after := #[{ on := 3, ground := Ground.data }], guard := none }) (v := ?_) rfl (by kernel_rfl) (by kernel_rfl) (by kernel_rfl) (fun _ _ _ h => h) (Or.inl ⟨by rfl, ?_⟩) (by assumption) ?_
  rotate_left
  · intro w hSw; (try dsimp only at hSw); go_simp <;> with_reducible rfl
  try simp only [Act.put, List.setIfInBounds_toArray, List.set_cons_zero, List.set_cons_succ]
  refine wpAnyH_done (by kernel_rfl) ?_ _
  replace CUR := hide (Nat.le_trans (unhide CUR) (Below.size (unhide hB2)))
  replace HB := hide (below_two (unhide HB) (unhide hB2))
  clear hB2
  have q_RX := row1 (unhide RX)
  go_wp2_with fail
  go_fit (unhide MX _ _ _ _ _ (unhide Sx))
  rintro r w28 ⟨rfl, hm, hF⟩
  clear q_RX
  have oo := unhide ORD
  replace RA := hide ((hF.out b_RA (heap_lt (unhide RA)) (by omega)).trans (unhide RA))
  replace RB := hide ((hF.out b_RB (heap_lt (unhide RB)) (by omega)).trans (unhide RB))
  replace R0 := hide ((hF.out b_R0 (heap_lt (unhide R0)) (by omega)).trans (unhide R0))
  replace RX := hide ((hF.out b_RX (heap_lt (unhide RX)) (by omega)).trans (unhide RX))
  replace RN := hide ((hF.out b_RN (heap_lt (unhide RN)) (by omega)).trans (unhide RN))
  replace RG := hide ((hF.out b_RG (heap_lt (unhide RG)) (by omega)).trans (unhide RG))
  replace S0 := hide ((unhide S0).far hF (by omega))
  replace Sn := hide ((unhide Sn).far hF (by omega))
  replace Sg := hide ((unhide Sg).far hF (by omega))
  replace HB := hide ((unhide HB).trans (hF.below (by omega) (unhide HB).size))
  replace CUR := hide (Nat.le_trans (unhide CUR) hF.size)
  clear Sx hF oo
  clear hm
  go_wp2_with (refine load_own rfl _ rfl b_RN rfl x s1 56 (unhide RN) ?_)
  go_fit (unhide MN _ _ _ _ (unhide Sn))
  rintro r w29 ⟨⟨qN, rfl⟩, hF⟩
  have oo := unhide ORD
  replace RA := hide ((hF.out b_RA (heap_lt (unhide RA)) (by omega)).trans (unhide RA))
  replace RB := hide ((hF.out b_RB (heap_lt (unhide RB)) (by omega)).trans (unhide RB))
  replace R0 := hide ((hF.out b_R0 (heap_lt (unhide R0)) (by omega)).trans (unhide R0))
  replace RX := hide ((hF.out b_RX (heap_lt (unhide RX)) (by omega)).trans (unhide RX))
  replace RN := hide ((hF.out b_RN (heap_lt (unhide RN)) (by omega)).trans (unhide RN))
  replace RG := hide ((hF.out b_RG (heap_lt (unhide RG)) (by omega)).trans (unhide RG))
  replace S0 := hide ((unhide S0).far hF (by omega))
  replace Sg := hide ((unhide Sg).far hF (by omega))
  replace HB := hide ((unhide HB).trans (hF.below (by omega) (unhide HB).size))
  replace CUR := hide (Nat.le_trans (unhide CUR) hF.size)
  clear Sn hF oo
  have hqN : ¬ ((qN : Nat) : Int) < 0 := by omega
  have q_RG := row1 (unhide RG)
  have q_R0 := row1 (unhide R0)
  go_wp2_with fail
  go_fit (unhide EY _ _ _ _ _ _ _ _ _ _ _ (unhide Sg) (unhide S0))
  rintro r w30 ⟨rfl, hb⟩
  clear q_RG q_R0
  replace RA := hide (row_next hb (unhide RA))
  replace RB := hide (row_next hb (unhide RB))
  replace R0 := hide (row_next hb (unhide R0))
  replace RX := hide (row_next hb (unhide RX))
  replace RN := hide (row_next hb (unhide RN))
  replace RG := hide (row_next hb (unhide RG))
  replace S0 := hide ((unhide S0).next hb)
  replace Sg := hide ((unhide Sg).next hb)
  replace HB := hide (below_two (unhide HB) hb)
  replace CUR := hide (Nat.le_trans (unhide CUR) (Below.size hb))
  clear hb
  have q_RG := row1 (unhide RG)
  go_wp2_with fail
  go_fit (unhide MY _ _ _ _ _ _ (unhide Sg))
  rintro r w31 ⟨rfl, hm, hF⟩
  clear q_RG
  have oo := unhide ORD
  replace RA := hide ((hF.out b_RA (heap_lt (unhide RA)) (by omega)).trans (unhide RA))
  replace RB := hide ((hF.out b_RB (heap_lt (unhide RB)) (by omega)).trans (unhide RB))
  replace R0 := hide ((hF.out b_R0 (heap_lt (unhide R0)) (by omega)).trans (unhide R0))
  replace RX := hide ((hF.out b_RX (heap_lt (unhide RX)) (by omega)).trans (unhide RX))
  replace RN := hide ((hF.out b_RN (heap_lt (unhide RN)) (by omega)).trans (unhide RN))
  replace RG := hide ((hF.out b_RG (heap_lt (unhide RG)) (by omega)).trans (unhide RG))
  replace S0 := hide ((unhide S0).far hF (by omega))
  replace HB := hide ((unhide HB).trans (hF.below (by omega) (unhide HB).size))
  replace CUR := hide (Nat.le_trans (unhide CUR) hF.size)
  clear Sg hF oo
  have Mg := hide hm
  clear hm
  have q_RG := row1 (unhide RG)
  go_wp2_with fail
  go_fit (unhide HY _ _ _ _ _ _ (unhide Mg))
  rintro r w32 ⟨rfl, hb⟩
  clear q_RG
  replace RA := hide (row_next hb (unhide RA))
  replace RB := hide (row_next hb (unhide RB))
  replace R0 := hide (row_next hb (unhide R0))
  replace RX := hide (row_next hb (unhide RX))
  replace RN := hide (row_next hb (unhide RN))
  replace RG := hide (row_next hb (unhide RG))
  replace S0 := hide ((unhide S0).next hb)
  replace Mg := hide ((unhide Mg).next hb)
  replace HB := hide (below_two (unhide HB) hb)
  replace CUR := hide (Nat.le_trans (unhide CUR) (Below.size hb))
  clear hb
  go_upto_region 31 with fail
  go_cut [15, 16] (fun t v u => ∃ bb aa cc AA, t = .pointer (some ⟨bb, 0, none⟩) ∧ v = .int .i64 C ∧ u.heap[bb]? = some (.cells #[.slice aa M cc] 43 (0, 0)) ∧ w32.heap.size ≤ bb ∧ SG u w32.heap.size u.heap.size aa M cc Y AA ∧ Below w32.heap.size w32 u)
  case first =>
    refine wp_region_held_drew (S := (fun u => u.cell? ⟨b_RA, 0, none⟩ = some (.slice ao n cp) ∧ u.rangeAt b_RB 0 (ndC x s).toList)) (by kernel_rfl) ?_ (fun hHeld => ?_)
    · exact ⟨row1 (unhide RA), rowRng (unhide RB)⟩
    have hB2 := hide (show Below w32.heap.size w32 w32.drew from (Below.refl _ _).drew)
    replace RA := hide (row_next (unhide hB2) (unhide RA))
    replace RB := hide (row_next (unhide hB2) (unhide RB))
    replace R0 := hide (row_next (unhide hB2) (unhide R0))
    replace RX := hide (row_next (unhide hB2) (unhide RX))
    replace RN := hide (row_next (unhide hB2) (unhide RN))
    replace RG := hide (row_next (unhide hB2) (unhide RG))
    replace S0 := hide ((unhide S0).next (unhide hB2))
    replace Mg := hide ((unhide Mg).next (unhide hB2))
    generalize w32.drew = V0 at RA RB R0 RX RN RG S0 Mg hB2 hHeld ⊢
    refine wpAnyH_take (i := 0) (oi := { dst := some 95, op := Op.load 24 (Operand.tmp 2), type := 24, pos := "exact.go:3588", after := #[], guard := none }) (v := ?_) rfl (by kernel_rfl) (by kernel_rfl) (by kernel_rfl) (fun _ _ _ h => h) (Or.inl ⟨by rfl, ?_⟩) (by assumption) ?_
    rotate_left
    · intro w hSw; (try dsimp only at hSw); go_simp <;> with_reducible rfl
    try simp only [Act.put, List.setIfInBounds_toArray, List.set_cons_zero, List.set_cons_succ]
    refine wpAnyH_take (i := 2) (oi := { dst := some 97, op := Op.load 38 (Operand.tmp 3), type := 38, pos := "exact.go:3588", after := #[], guard := none }) (v := .agg (ndC x s)) rfl (by kernel_rfl) (by kernel_rfl) (by kernel_rfl) (fun _ _ _ h => h) (yields_lnode (by rfl) _ rfl b_RB 0 rfl x s (fun w h => h.2)) (by assumption) ?_
    try simp only [Act.put, List.setIfInBounds_toArray, List.set_cons_zero, List.set_cons_succ]
    refine wpAnyH_ready (rs := [1, 8]) (by kernel_rfl) (by simp) ?_
    refine AllReadyH.cons (o := { dst := some 96, op := Op.call { callee := Callee.value (Operand.func 7), args := #[Operand.tmp 95], argTypes := #[24] }, type := 43, pos := "exact.go:3588", after := #[{ on := 0, ground := Ground.data }], guard := none }) rfl (fun K hK => ?_) ?_
    · go_simp
      (go_at_call 7; go_fit (unhide T _ (below_two (unhide HB) (unhide hB2))); rintro r V33 ⟨at_, At, rfl, hp, hb⟩)
      replace RA := hide (row_next hb (unhide RA))
      replace RB := hide (row_next hb (unhide RB))
      replace R0 := hide (row_next hb (unhide R0))
      replace RX := hide (row_next hb (unhide RX))
      replace RN := hide (row_next hb (unhide RN))
      replace RG := hide (row_next hb (unhide RG))
      replace S0 := hide ((unhide S0).next hb)
      replace Mg := hide ((unhide Mg).next hb)
      replace hB2 := hide (below_two (unhide hB2) hb)
      refine hK.out _ _ ?_ (fun hHeld => ?_)
      · exact ⟨row1 (unhide RA), rowRng (unhide RB)⟩
      clear hK K
      try simp only [Act.put, List.setIfInBounds_toArray, List.set_cons_zero, List.set_cons_succ]
      have St := hide hp.sg
      clear hp hb
      refine wpAnyH_ready (rs := [3, 8]) (by kernel_rfl) (by simp) ?_
      refine AllReadyH.cons (o := { dst := some 98, op := Op.call { callee := Callee.value (Operand.func 8), args := #[Operand.tmp 97], argTypes := #[38] }, type := 56, pos := "exact.go:3588", after := #[{ on := 2, ground := Ground.data }, { on := 1, ground := Ground.chain }], guard := none }) rfl (fun K hK => ?_) ?_
      · go_simp
        (go_at_call 8; go_fit (unhide TN_ _ (below_two (unhide HB) (unhide hB2))); rintro r V34 ⟨st, Kt, rfl, hp, h5, hb⟩)
        replace RA := hide (row_next hb (unhide RA))
        replace RB := hide (row_next hb (unhide RB))
        replace R0 := hide (row_next hb (unhide R0))
        replace RX := hide (row_next hb (unhide RX))
        replace RN := hide (row_next hb (unhide RN))
        replace RG := hide (row_next hb (unhide RG))
        replace S0 := hide ((unhide S0).next hb)
        replace Mg := hide ((unhide Mg).next hb)
        replace hB2 := hide (below_two (unhide hB2) hb)
        replace St := hide ((unhide St).next hb)
        refine hK.out _ _ ?_ (fun hHeld => ?_)
        · exact ⟨row1 (unhide RA), rowRng (unhide RB)⟩
        clear hK K
        try simp only [Act.put, List.setIfInBounds_toArray, List.set_cons_zero, List.set_cons_succ]
        have Nt := hide (hp.ndG h5)
        clear hp h5 hb
        refine wpAnyH_ready (rs := [4, 8]) (by kernel_rfl) (by simp) ?_
        refine AllReadyH.cons (o := { dst := some 99, op := Op.call { callee := Callee.value (Operand.func 9), args := #[Operand.tmp 96, Operand.tmp 98], argTypes := #[43, 56] }, type := 44, pos := "exact.go:3588", after := #[{ on := 1, ground := Ground.data }, { on := 3, ground := Ground.data }, { on := 3, ground := Ground.chain }], guard := none }) rfl (fun K hK => ?_) ?_
        · have hsz := hide (show w32.heap.size ≤ V34.heap.size from (unhide hB2).size)
          go_simp
          (go_at_call 9; go_fit (unhide I_ _ _ _ _ _ _ _ (unhide St) (unhide Nt) (below_two (unhide HB) (unhide hB2))); rintro r V35 ⟨ar, cr, Ar, rfl, hp, hb⟩)
          replace RA := hide (row_next hb (unhide RA))
          replace RB := hide (row_next hb (unhide RB))
          replace R0 := hide (row_next hb (unhide R0))
          replace RX := hide (row_next hb (unhide RX))
          replace RN := hide (row_next hb (unhide RN))
          replace RG := hide (row_next hb (unhide RG))
          replace S0 := hide ((unhide S0).next hb)
          replace Mg := hide ((unhide Mg).next hb)
          replace hB2 := hide (below_two (unhide hB2) hb)
          replace St := hide ((unhide St).next hb)
          replace Nt := hide ((unhide Nt).next hb)
          refine hK.out _ _ ?_ (fun hHeld => ?_)
          · exact ⟨row1 (unhide RA), rowRng (unhide RB)⟩
          clear hK K
          try simp only [Act.put, List.setIfInBounds_toArray, List.set_cons_zero, List.set_cons_succ]
          have Sr := hide (hp.low (unhide hsz))
          clear hp hb hsz St Nt
          refine wpAnyH_take (i := 5) (oi := { dst := some 94, op := Op.move (Operand.tmp 99), type := 44, pos := "exact.go:3588", after := #[{ on := 4, ground := Ground.data }], guard := none }) (v := ?_) rfl (by kernel_rfl) (by kernel_rfl) (by kernel_rfl) (fun _ _ _ h => h) (Or.inl ⟨by rfl, ?_⟩) (by assumption) ?_
          rotate_left
          · intro w hSw; (try dsimp only at hSw); go_simp <;> with_reducible rfl
          try simp only [Act.put, List.setIfInBounds_toArray, List.set_cons_zero, List.set_cons_succ]
          refine wpAnyH_take (i := 6) (oi := { dst := some 100, op := Op.extract (Operand.tmp 94) 0, type := 43, pos := "exact.go:3588", after := #[{ on := 5, ground := Ground.data }], guard := none }) (v := ?_) rfl (by kernel_rfl) (by kernel_rfl) (by kernel_rfl) (fun _ _ _ h => h) (Or.inl ⟨by rfl, ?_⟩) (by assumption) ?_
          rotate_left
          · intro w hSw; (try dsimp only at hSw); go_simp <;> with_reducible rfl
          try simp only [Act.put, List.setIfInBounds_toArray, List.set_cons_zero, List.set_cons_succ]
          refine wpAnyH_take (i := 7) (oi := { dst := some 101, op := Op.extract (Operand.tmp 94) 1, type := 3, pos := "exact.go:3588", after := #[{ on := 5, ground := Ground.data }, { on := 9, ground := Ground.gcOnly Departure.lateStores }], guard := none }) (v := ?_) rfl (by kernel_rfl) (by kernel_rfl) (by kernel_rfl) (fun _ _ _ h => h) (Or.inl ⟨by rfl, ?_⟩) (by assumption) ?_
          rotate_left
          · intro w hSw; (try dsimp only at hSw); go_simp <;> with_reducible rfl
          try simp only [Act.put, List.setIfInBounds_toArray, List.set_cons_zero, List.set_cons_succ]
          refine wpAnyH_ready (rs := [8]) (by kernel_rfl) (by simp) ?_
          refine AllReadyH.cons (o := { dst := some 15, op := Op.alloc 43, type := 0, pos := "exact.go:3588", after := #[], guard := none }) rfl (fun K hK => ?_) AllReadyH.nil
          have lz := hide (show w32.heap.size ≤ V35.heap.size from (unhide hB2).size)
          go_simp
          replace RA := hide (row_next (al1_below V35 (.cells #[.slice none 0 0] 43)) (unhide RA))
          replace RB := hide (row_next (al1_below V35 (.cells #[.slice none 0 0] 43)) (unhide RB))
          replace R0 := hide (row_next (al1_below V35 (.cells #[.slice none 0 0] 43)) (unhide R0))
          replace RX := hide (row_next (al1_below V35 (.cells #[.slice none 0 0] 43)) (unhide RX))
          replace RN := hide (row_next (al1_below V35 (.cells #[.slice none 0 0] 43)) (unhide RN))
          replace RG := hide (row_next (al1_below V35 (.cells #[.slice none 0 0] 43)) (unhide RG))
          replace S0 := hide ((unhide S0).next (al1_below V35 (.cells #[.slice none 0 0] 43)))
          replace Mg := hide ((unhide Mg).next (al1_below V35 (.cells #[.slice none 0 0] 43)))
          replace hB2 := hide (below_two (unhide hB2) (al1_below V35 (.cells #[.slice none 0 0] 43)))
          replace Sr := hide ((unhide Sr).next (al1_below V35 (.cells #[.slice none 0 0] 43)))
          refine hK.out _ _ ?_ (fun hHeld => ?_)
          · exact ⟨row1 (unhide RA), rowRng (unhide RB)⟩
          clear hK K
          try simp only [Act.put, List.setIfInBounds_toArray, List.set_cons_zero, List.set_cons_succ]
          have RZ := hide (new_row V35 (.cells #[.slice none 0 0] 43))
          replace Sr := hide ((unhide Sr).high (show V35.heap.size ≤ (V35.alloc (.cells #[.slice none 0 0] 43)).heap.size from (al1_below V35 (.cells #[.slice none 0 0] 43)).size))
          generalize V35.alloc (.cells #[.slice none 0 0] 43) = V36 at RA RB R0 RX RN RG S0 Mg Sr RZ hB2 hHeld ⊢
          generalize V35.heap.size = bz at RZ lz ⊢
          refine wpAnyH_ready (rs := [9]) (by kernel_rfl) (by simp) ?_
          refine AllReadyH.cons (o := { dst := none, op := Op.store 43 (Operand.tmp 15) (Operand.tmp 100), type := 0, pos := "exact.go:3588", after := #[{ on := 8, ground := Ground.data }, { on := 6, ground := Ground.data }, { on := 4, ground := Ground.chain }, { on := 0, ground := Ground.phase }, { on := 1, ground := Ground.phase }, { on := 2, ground := Ground.phase }, { on := 3, ground := Ground.phase }, { on := 4, ground := Ground.phase }, { on := 5, ground := Ground.phase }, { on := 6, ground := Ground.phase }, { on := 7, ground := Ground.textOnly Departure.lateStores }, { on := 8, ground := Ground.phase }], guard := none }) rfl (fun K hK => ?_) AllReadyH.nil
          have cb := row1 (unhide RZ)
          have fb := frozen_of_row V36 bz 0 _ _ (unhide RZ)
          go_simp
          replace RA := hide (setc_other (b := bz) (j := 0) (v := (.slice ar M cr)) (by have h1 := unhide lz; have h2 := unhide CUR; have h3 := unhide ORD; omega) (unhide RA))
          replace RB := hide (setc_other (b := bz) (j := 0) (v := (.slice ar M cr)) (by have h1 := unhide lz; have h2 := unhide CUR; have h3 := unhide ORD; omega) (unhide RB))
          replace R0 := hide (setc_other (b := bz) (j := 0) (v := (.slice ar M cr)) (by have h1 := unhide lz; have h2 := unhide CUR; have h3 := unhide ORD; omega) (unhide R0))
          replace RX := hide (setc_other (b := bz) (j := 0) (v := (.slice ar M cr)) (by have h1 := unhide lz; have h2 := unhide CUR; have h3 := unhide ORD; omega) (unhide RX))
          replace RN := hide (setc_other (b := bz) (j := 0) (v := (.slice ar M cr)) (by have h1 := unhide lz; have h2 := unhide CUR; have h3 := unhide ORD; omega) (unhide RN))
          replace RG := hide (setc_other (b := bz) (j := 0) (v := (.slice ar M cr)) (by have h1 := unhide lz; have h2 := unhide CUR; have h3 := unhide ORD; omega) (unhide RG))
          replace Sr := hide (show SG (V36.setCell ⟨bz, 0, none⟩ (.slice ar M cr)) w32.heap.size (V36.setCell ⟨bz, 0, none⟩ (.slice ar M cr)).heap.size ar M cr Y Ar by have h := (unhide Sr).setk (j := 0) (v := (.slice ar M cr)) (unhide RZ); simpa [World.setCell] using h)
          replace hB2 := hide ((unhide hB2).setCell (p := ⟨bz, 0, none⟩) (unhide lz) (.slice ar M cr))
          replace RZ := hide (show (V36.setCell ⟨bz, 0, none⟩ (.slice ar M cr)).heap[bz]? = some (.cells #[(.slice ar M cr)] 43 (0, 0)) by have := setC (v := (.slice ar M cr)) (j := 0) (unhide RZ); simpa using this)
          refine hK.out _ _ ?_ (fun hHeld => ?_)
          · exact ⟨row1 (unhide RA), rowRng (unhide RB)⟩
          clear hK K
          try simp only [Act.put, List.setIfInBounds_toArray, List.set_cons_zero, List.set_cons_succ]
          clear cb fb
          refine wpAnyH_take (i := 10) (oi := { dst := some 16, op := Op.assign (Operand.tmp 101), type := 3, pos := "exact.go:3588", after := #[{ on := 7, ground := Ground.data }, { on := 9, ground := Ground.chain }, { on := 0, ground := Ground.phase }, { on := 1, ground := Ground.phase }, { on := 2, ground := Ground.phase }, { on := 3, ground := Ground.phase }, { on := 4, ground := Ground.phase }, { on := 5, ground := Ground.phase }, { on := 6, ground := Ground.phase }, { on := 7, ground := Ground.phase }, { on := 8, ground := Ground.phase }, { on := 9, ground := Ground.phase }], guard := none }) (v := ?_) rfl (by kernel_rfl) (by kernel_rfl) (by kernel_rfl) (fun _ _ _ h => h) (Or.inl ⟨by rfl, ?_⟩) (by assumption) ?_
          rotate_left
          · intro w hSw; (try dsimp only at hSw); go_simp <;> with_reducible rfl
          try simp only [Act.put, List.setIfInBounds_toArray, List.set_cons_zero, List.set_cons_succ]
          refine wpAnyH_done (by kernel_rfl) ?_ _
          go_wp2_with fail
          go_meet
          exact ⟨bz, ar, cr, Ar, rfl, rfl, unhide RZ, unhide lz, unhide Sr, unhide hB2⟩
        refine AllReadyH.cons (o := { dst := some 15, op := Op.alloc 43, type := 0, pos := "exact.go:3588", after := #[], guard := none }) rfl (fun K hK => ?_) ?_
        · have lz := hide (show w32.heap.size ≤ V34.heap.size from (unhide hB2).size)
          go_simp
          replace RA := hide (row_next (al1_below V34 (.cells #[.slice none 0 0] 43)) (unhide RA))
          replace RB := hide (row_next (al1_below V34 (.cells #[.slice none 0 0] 43)) (unhide RB))
          replace R0 := hide (row_next (al1_below V34 (.cells #[.slice none 0 0] 43)) (unhide R0))
          replace RX := hide (row_next (al1_below V34 (.cells #[.slice none 0 0] 43)) (unhide RX))
          replace RN := hide (row_next (al1_below V34 (.cells #[.slice none 0 0] 43)) (unhide RN))
          replace RG := hide (row_next (al1_below V34 (.cells #[.slice none 0 0] 43)) (unhide RG))
          replace S0 := hide ((unhide S0).next (al1_below V34 (.cells #[.slice none 0 0] 43)))
          replace Mg := hide ((unhide Mg).next (al1_below V34 (.cells #[.slice none 0 0] 43)))
          replace hB2 := hide (below_two (unhide hB2) (al1_below V34 (.cells #[.slice none 0 0] 43)))
          replace St := hide ((unhide St).next (al1_below V34 (.cells #[.slice none 0 0] 43)))
          replace Nt := hide ((unhide Nt).next (al1_below V34 (.cells #[.slice none 0 0] 43)))
          refine hK.out _ _ ?_ (fun hHeld => ?_)
          · exact ⟨row1 (unhide RA), rowRng (unhide RB)⟩
          clear hK K
          try simp only [Act.put, List.setIfInBounds_toArray, List.set_cons_zero, List.set_cons_succ]
          have RZ := hide (new_row V34 (.cells #[.slice none 0 0] 43))
          generalize V34.alloc (.cells #[.slice none 0 0] 43) = V37 at RA RB R0 RX RN RG S0 Mg St Nt RZ hB2 hHeld ⊢
          generalize V34.heap.size = bz at RZ lz ⊢
          refine wpAnyH_ready (rs := [4]) (by kernel_rfl) (by simp) ?_
          refine AllReadyH.cons (o := { dst := some 99, op := Op.call { callee := Callee.value (Operand.func 9), args := #[Operand.tmp 96, Operand.tmp 98], argTypes := #[43, 56] }, type := 44, pos := "exact.go:3588", after := #[{ on := 1, ground := Ground.data }, { on := 3, ground := Ground.data }, { on := 3, ground := Ground.chain }], guard := none }) rfl (fun K hK => ?_) AllReadyH.nil
          have hsz := hide (show w32.heap.size ≤ V37.heap.size from (unhide hB2).size)
          go_simp
          (go_at_call 9; go_fit (unhide I_ _ _ _ _ _ _ _ (unhide St) (unhide Nt) (below_two (unhide HB) (unhide hB2))); rintro r V38 ⟨ar, cr, Ar, rfl, hp, hb⟩)
          replace RA := hide (row_next hb (unhide RA))
          replace RB := hide (row_next hb (unhide RB))
          replace R0 := hide (row_next hb (unhide R0))
          replace RX := hide (row_next hb (unhide RX))
          replace RN := hide (row_next hb (unhide RN))
          replace RG := hide (row_next hb (unhide RG))
          replace S0 := hide ((unhide S0).next hb)
          replace Mg := hide ((unhide Mg).next hb)
          replace hB2 := hide (below_two (unhide hB2) hb)
          replace RZ := hide (row_next hb (unhide RZ))
          replace St := hide ((unhide St).next hb)
          replace Nt := hide ((unhide Nt).next hb)
          refine hK.out _ _ ?_ (fun hHeld => ?_)
          · exact ⟨row1 (unhide RA), rowRng (unhide RB)⟩
          clear hK K
          try simp only [Act.put, List.setIfInBounds_toArray, List.set_cons_zero, List.set_cons_succ]
          have Sr := hide (hp.low (unhide hsz))
          clear hp hb hsz St Nt
          refine wpAnyH_take (i := 5) (oi := { dst := some 94, op := Op.move (Operand.tmp 99), type := 44, pos := "exact.go:3588", after := #[{ on := 4, ground := Ground.data }], guard := none }) (v := ?_) rfl (by kernel_rfl) (by kernel_rfl) (by kernel_rfl) (fun _ _ _ h => h) (Or.inl ⟨by rfl, ?_⟩) (by assumption) ?_
          rotate_left
          · intro w hSw; (try dsimp only at hSw); go_simp <;> with_reducible rfl
          try simp only [Act.put, List.setIfInBounds_toArray, List.set_cons_zero, List.set_cons_succ]
          refine wpAnyH_take (i := 6) (oi := { dst := some 100, op := Op.extract (Operand.tmp 94) 0, type := 43, pos := "exact.go:3588", after := #[{ on := 5, ground := Ground.data }], guard := none }) (v := ?_) rfl (by kernel_rfl) (by kernel_rfl) (by kernel_rfl) (fun _ _ _ h => h) (Or.inl ⟨by rfl, ?_⟩) (by assumption) ?_
          rotate_left
          · intro w hSw; (try dsimp only at hSw); go_simp <;> with_reducible rfl
          try simp only [Act.put, List.setIfInBounds_toArray, List.set_cons_zero, List.set_cons_succ]
          refine wpAnyH_take (i := 7) (oi := { dst := some 101, op := Op.extract (Operand.tmp 94) 1, type := 3, pos := "exact.go:3588", after := #[{ on := 5, ground := Ground.data }, { on := 9, ground := Ground.gcOnly Departure.lateStores }], guard := none }) (v := ?_) rfl (by kernel_rfl) (by kernel_rfl) (by kernel_rfl) (fun _ _ _ h => h) (Or.inl ⟨by rfl, ?_⟩) (by assumption) ?_
          rotate_left
          · intro w hSw; (try dsimp only at hSw); go_simp <;> with_reducible rfl
          try simp only [Act.put, List.setIfInBounds_toArray, List.set_cons_zero, List.set_cons_succ]
          refine wpAnyH_ready (rs := [9]) (by kernel_rfl) (by simp) ?_
          refine AllReadyH.cons (o := { dst := none, op := Op.store 43 (Operand.tmp 15) (Operand.tmp 100), type := 0, pos := "exact.go:3588", after := #[{ on := 8, ground := Ground.data }, { on := 6, ground := Ground.data }, { on := 4, ground := Ground.chain }, { on := 0, ground := Ground.phase }, { on := 1, ground := Ground.phase }, { on := 2, ground := Ground.phase }, { on := 3, ground := Ground.phase }, { on := 4, ground := Ground.phase }, { on := 5, ground := Ground.phase }, { on := 6, ground := Ground.phase }, { on := 7, ground := Ground.textOnly Departure.lateStores }, { on := 8, ground := Ground.phase }], guard := none }) rfl (fun K hK => ?_) AllReadyH.nil
          have cb := row1 (unhide RZ)
          have fb := frozen_of_row V38 bz 0 _ _ (unhide RZ)
          go_simp
          replace RA := hide (setc_other (b := bz) (j := 0) (v := (.slice ar M cr)) (by have h1 := unhide lz; have h2 := unhide CUR; have h3 := unhide ORD; omega) (unhide RA))
          replace RB := hide (setc_other (b := bz) (j := 0) (v := (.slice ar M cr)) (by have h1 := unhide lz; have h2 := unhide CUR; have h3 := unhide ORD; omega) (unhide RB))
          replace R0 := hide (setc_other (b := bz) (j := 0) (v := (.slice ar M cr)) (by have h1 := unhide lz; have h2 := unhide CUR; have h3 := unhide ORD; omega) (unhide R0))
          replace RX := hide (setc_other (b := bz) (j := 0) (v := (.slice ar M cr)) (by have h1 := unhide lz; have h2 := unhide CUR; have h3 := unhide ORD; omega) (unhide RX))
          replace RN := hide (setc_other (b := bz) (j := 0) (v := (.slice ar M cr)) (by have h1 := unhide lz; have h2 := unhide CUR; have h3 := unhide ORD; omega) (unhide RN))
          replace RG := hide (setc_other (b := bz) (j := 0) (v := (.slice ar M cr)) (by have h1 := unhide lz; have h2 := unhide CUR; have h3 := unhide ORD; omega) (unhide RG))
          replace Sr := hide (show SG (V38.setCell ⟨bz, 0, none⟩ (.slice ar M cr)) w32.heap.size (V38.setCell ⟨bz, 0, none⟩ (.slice ar M cr)).heap.size ar M cr Y Ar by have h := (unhide Sr).setk (j := 0) (v := (.slice ar M cr)) (unhide RZ); simpa [World.setCell] using h)
          replace hB2 := hide ((unhide hB2).setCell (p := ⟨bz, 0, none⟩) (unhide lz) (.slice ar M cr))
          replace RZ := hide (show (V38.setCell ⟨bz, 0, none⟩ (.slice ar M cr)).heap[bz]? = some (.cells #[(.slice ar M cr)] 43 (0, 0)) by have := setC (v := (.slice ar M cr)) (j := 0) (unhide RZ); simpa using this)
          refine hK.out _ _ ?_ (fun hHeld => ?_)
          · exact ⟨row1 (unhide RA), rowRng (unhide RB)⟩
          clear hK K
          try simp only [Act.put, List.setIfInBounds_toArray, List.set_cons_zero, List.set_cons_succ]
          clear cb fb
          refine wpAnyH_take (i := 10) (oi := { dst := some 16, op := Op.assign (Operand.tmp 101), type := 3, pos := "exact.go:3588", after := #[{ on := 7, ground := Ground.data }, { on := 9, ground := Ground.chain }, { on := 0, ground := Ground.phase }, { on := 1, ground := Ground.phase }, { on := 2, ground := Ground.phase }, { on := 3, ground := Ground.phase }, { on := 4, ground := Ground.phase }, { on := 5, ground := Ground.phase }, { on := 6, ground := Ground.phase }, { on := 7, ground := Ground.phase }, { on := 8, ground := Ground.phase }, { on := 9, ground := Ground.phase }], guard := none }) (v := ?_) rfl (by kernel_rfl) (by kernel_rfl) (by kernel_rfl) (fun _ _ _ h => h) (Or.inl ⟨by rfl, ?_⟩) (by assumption) ?_
          rotate_left
          · intro w hSw; (try dsimp only at hSw); go_simp <;> with_reducible rfl
          try simp only [Act.put, List.setIfInBounds_toArray, List.set_cons_zero, List.set_cons_succ]
          refine wpAnyH_done (by kernel_rfl) ?_ _
          go_wp2_with fail
          go_meet
          exact ⟨bz, ar, cr, Ar, rfl, rfl, unhide RZ, unhide lz, unhide Sr, unhide hB2⟩
        exact AllReadyH.nil
      refine AllReadyH.cons (o := { dst := some 15, op := Op.alloc 43, type := 0, pos := "exact.go:3588", after := #[], guard := none }) rfl (fun K hK => ?_) ?_
      · have lz := hide (show w32.heap.size ≤ V33.heap.size from (unhide hB2).size)
        go_simp
        replace RA := hide (row_next (al1_below V33 (.cells #[.slice none 0 0] 43)) (unhide RA))
        replace RB := hide (row_next (al1_below V33 (.cells #[.slice none 0 0] 43)) (unhide RB))
        replace R0 := hide (row_next (al1_below V33 (.cells #[.slice none 0 0] 43)) (unhide R0))
        replace RX := hide (row_next (al1_below V33 (.cells #[.slice none 0 0] 43)) (unhide RX))
        replace RN := hide (row_next (al1_below V33 (.cells #[.slice none 0 0] 43)) (unhide RN))
        replace RG := hide (row_next (al1_below V33 (.cells #[.slice none 0 0] 43)) (unhide RG))
        replace S0 := hide ((unhide S0).next (al1_below V33 (.cells #[.slice none 0 0] 43)))
        replace Mg := hide ((unhide Mg).next (al1_below V33 (.cells #[.slice none 0 0] 43)))
        replace hB2 := hide (below_two (unhide hB2) (al1_below V33 (.cells #[.slice none 0 0] 43)))
        replace St := hide ((unhide St).next (al1_below V33 (.cells #[.slice none 0 0] 43)))
        refine hK.out _ _ ?_ (fun hHeld => ?_)
        · exact ⟨row1 (unhide RA), rowRng (unhide RB)⟩
        clear hK K
        try simp only [Act.put, List.setIfInBounds_toArray, List.set_cons_zero, List.set_cons_succ]
        have RZ := hide (new_row V33 (.cells #[.slice none 0 0] 43))
        generalize V33.alloc (.cells #[.slice none 0 0] 43) = V39 at RA RB R0 RX RN RG S0 Mg St RZ hB2 hHeld ⊢
        generalize V33.heap.size = bz at RZ lz ⊢
        refine wpAnyH_ready (rs := [3]) (by kernel_rfl) (by simp) ?_
        refine AllReadyH.cons (o := { dst := some 98, op := Op.call { callee := Callee.value (Operand.func 8), args := #[Operand.tmp 97], argTypes := #[38] }, type := 56, pos := "exact.go:3588", after := #[{ on := 2, ground := Ground.data }, { on := 1, ground := Ground.chain }], guard := none }) rfl (fun K hK => ?_) AllReadyH.nil
        go_simp
        (go_at_call 8; go_fit (unhide TN_ _ (below_two (unhide HB) (unhide hB2))); rintro r V40 ⟨st, Kt, rfl, hp, h5, hb⟩)
        replace RA := hide (row_next hb (unhide RA))
        replace RB := hide (row_next hb (unhide RB))
        replace R0 := hide (row_next hb (unhide R0))
        replace RX := hide (row_next hb (unhide RX))
        replace RN := hide (row_next hb (unhide RN))
        replace RG := hide (row_next hb (unhide RG))
        replace S0 := hide ((unhide S0).next hb)
        replace Mg := hide ((unhide Mg).next hb)
        replace hB2 := hide (below_two (unhide hB2) hb)
        replace RZ := hide (row_next hb (unhide RZ))
        replace St := hide ((unhide St).next hb)
        refine hK.out _ _ ?_ (fun hHeld => ?_)
        · exact ⟨row1 (unhide RA), rowRng (unhide RB)⟩
        clear hK K
        try simp only [Act.put, List.setIfInBounds_toArray, List.set_cons_zero, List.set_cons_succ]
        have Nt := hide (hp.ndG h5)
        clear hp h5 hb
        refine wpAnyH_ready (rs := [4]) (by kernel_rfl) (by simp) ?_
        refine AllReadyH.cons (o := { dst := some 99, op := Op.call { callee := Callee.value (Operand.func 9), args := #[Operand.tmp 96, Operand.tmp 98], argTypes := #[43, 56] }, type := 44, pos := "exact.go:3588", after := #[{ on := 1, ground := Ground.data }, { on := 3, ground := Ground.data }, { on := 3, ground := Ground.chain }], guard := none }) rfl (fun K hK => ?_) AllReadyH.nil
        have hsz := hide (show w32.heap.size ≤ V40.heap.size from (unhide hB2).size)
        go_simp
        (go_at_call 9; go_fit (unhide I_ _ _ _ _ _ _ _ (unhide St) (unhide Nt) (below_two (unhide HB) (unhide hB2))); rintro r V41 ⟨ar, cr, Ar, rfl, hp, hb⟩)
        replace RA := hide (row_next hb (unhide RA))
        replace RB := hide (row_next hb (unhide RB))
        replace R0 := hide (row_next hb (unhide R0))
        replace RX := hide (row_next hb (unhide RX))
        replace RN := hide (row_next hb (unhide RN))
        replace RG := hide (row_next hb (unhide RG))
        replace S0 := hide ((unhide S0).next hb)
        replace Mg := hide ((unhide Mg).next hb)
        replace hB2 := hide (below_two (unhide hB2) hb)
        replace RZ := hide (row_next hb (unhide RZ))
        replace St := hide ((unhide St).next hb)
        replace Nt := hide ((unhide Nt).next hb)
        refine hK.out _ _ ?_ (fun hHeld => ?_)
        · exact ⟨row1 (unhide RA), rowRng (unhide RB)⟩
        clear hK K
        try simp only [Act.put, List.setIfInBounds_toArray, List.set_cons_zero, List.set_cons_succ]
        have Sr := hide (hp.low (unhide hsz))
        clear hp hb hsz St Nt
        refine wpAnyH_take (i := 5) (oi := { dst := some 94, op := Op.move (Operand.tmp 99), type := 44, pos := "exact.go:3588", after := #[{ on := 4, ground := Ground.data }], guard := none }) (v := ?_) rfl (by kernel_rfl) (by kernel_rfl) (by kernel_rfl) (fun _ _ _ h => h) (Or.inl ⟨by rfl, ?_⟩) (by assumption) ?_
        rotate_left
        · intro w hSw; (try dsimp only at hSw); go_simp <;> with_reducible rfl
        try simp only [Act.put, List.setIfInBounds_toArray, List.set_cons_zero, List.set_cons_succ]
        refine wpAnyH_take (i := 6) (oi := { dst := some 100, op := Op.extract (Operand.tmp 94) 0, type := 43, pos := "exact.go:3588", after := #[{ on := 5, ground := Ground.data }], guard := none }) (v := ?_) rfl (by kernel_rfl) (by kernel_rfl) (by kernel_rfl) (fun _ _ _ h => h) (Or.inl ⟨by rfl, ?_⟩) (by assumption) ?_
        rotate_left
        · intro w hSw; (try dsimp only at hSw); go_simp <;> with_reducible rfl
        try simp only [Act.put, List.setIfInBounds_toArray, List.set_cons_zero, List.set_cons_succ]
        refine wpAnyH_take (i := 7) (oi := { dst := some 101, op := Op.extract (Operand.tmp 94) 1, type := 3, pos := "exact.go:3588", after := #[{ on := 5, ground := Ground.data }, { on := 9, ground := Ground.gcOnly Departure.lateStores }], guard := none }) (v := ?_) rfl (by kernel_rfl) (by kernel_rfl) (by kernel_rfl) (fun _ _ _ h => h) (Or.inl ⟨by rfl, ?_⟩) (by assumption) ?_
        rotate_left
        · intro w hSw; (try dsimp only at hSw); go_simp <;> with_reducible rfl
        try simp only [Act.put, List.setIfInBounds_toArray, List.set_cons_zero, List.set_cons_succ]
        refine wpAnyH_ready (rs := [9]) (by kernel_rfl) (by simp) ?_
        refine AllReadyH.cons (o := { dst := none, op := Op.store 43 (Operand.tmp 15) (Operand.tmp 100), type := 0, pos := "exact.go:3588", after := #[{ on := 8, ground := Ground.data }, { on := 6, ground := Ground.data }, { on := 4, ground := Ground.chain }, { on := 0, ground := Ground.phase }, { on := 1, ground := Ground.phase }, { on := 2, ground := Ground.phase }, { on := 3, ground := Ground.phase }, { on := 4, ground := Ground.phase }, { on := 5, ground := Ground.phase }, { on := 6, ground := Ground.phase }, { on := 7, ground := Ground.textOnly Departure.lateStores }, { on := 8, ground := Ground.phase }], guard := none }) rfl (fun K hK => ?_) AllReadyH.nil
        have cb := row1 (unhide RZ)
        have fb := frozen_of_row V41 bz 0 _ _ (unhide RZ)
        go_simp
        replace RA := hide (setc_other (b := bz) (j := 0) (v := (.slice ar M cr)) (by have h1 := unhide lz; have h2 := unhide CUR; have h3 := unhide ORD; omega) (unhide RA))
        replace RB := hide (setc_other (b := bz) (j := 0) (v := (.slice ar M cr)) (by have h1 := unhide lz; have h2 := unhide CUR; have h3 := unhide ORD; omega) (unhide RB))
        replace R0 := hide (setc_other (b := bz) (j := 0) (v := (.slice ar M cr)) (by have h1 := unhide lz; have h2 := unhide CUR; have h3 := unhide ORD; omega) (unhide R0))
        replace RX := hide (setc_other (b := bz) (j := 0) (v := (.slice ar M cr)) (by have h1 := unhide lz; have h2 := unhide CUR; have h3 := unhide ORD; omega) (unhide RX))
        replace RN := hide (setc_other (b := bz) (j := 0) (v := (.slice ar M cr)) (by have h1 := unhide lz; have h2 := unhide CUR; have h3 := unhide ORD; omega) (unhide RN))
        replace RG := hide (setc_other (b := bz) (j := 0) (v := (.slice ar M cr)) (by have h1 := unhide lz; have h2 := unhide CUR; have h3 := unhide ORD; omega) (unhide RG))
        replace Sr := hide (show SG (V41.setCell ⟨bz, 0, none⟩ (.slice ar M cr)) w32.heap.size (V41.setCell ⟨bz, 0, none⟩ (.slice ar M cr)).heap.size ar M cr Y Ar by have h := (unhide Sr).setk (j := 0) (v := (.slice ar M cr)) (unhide RZ); simpa [World.setCell] using h)
        replace hB2 := hide ((unhide hB2).setCell (p := ⟨bz, 0, none⟩) (unhide lz) (.slice ar M cr))
        replace RZ := hide (show (V41.setCell ⟨bz, 0, none⟩ (.slice ar M cr)).heap[bz]? = some (.cells #[(.slice ar M cr)] 43 (0, 0)) by have := setC (v := (.slice ar M cr)) (j := 0) (unhide RZ); simpa using this)
        refine hK.out _ _ ?_ (fun hHeld => ?_)
        · exact ⟨row1 (unhide RA), rowRng (unhide RB)⟩
        clear hK K
        try simp only [Act.put, List.setIfInBounds_toArray, List.set_cons_zero, List.set_cons_succ]
        clear cb fb
        refine wpAnyH_take (i := 10) (oi := { dst := some 16, op := Op.assign (Operand.tmp 101), type := 3, pos := "exact.go:3588", after := #[{ on := 7, ground := Ground.data }, { on := 9, ground := Ground.chain }, { on := 0, ground := Ground.phase }, { on := 1, ground := Ground.phase }, { on := 2, ground := Ground.phase }, { on := 3, ground := Ground.phase }, { on := 4, ground := Ground.phase }, { on := 5, ground := Ground.phase }, { on := 6, ground := Ground.phase }, { on := 7, ground := Ground.phase }, { on := 8, ground := Ground.phase }, { on := 9, ground := Ground.phase }], guard := none }) (v := ?_) rfl (by kernel_rfl) (by kernel_rfl) (by kernel_rfl) (fun _ _ _ h => h) (Or.inl ⟨by rfl, ?_⟩) (by assumption) ?_
        rotate_left
        · intro w hSw; (try dsimp only at hSw); go_simp <;> with_reducible rfl
        try simp only [Act.put, List.setIfInBounds_toArray, List.set_cons_zero, List.set_cons_succ]
        refine wpAnyH_done (by kernel_rfl) ?_ _
        go_wp2_with fail
        go_meet
        exact ⟨bz, ar, cr, Ar, rfl, rfl, unhide RZ, unhide lz, unhide Sr, unhide hB2⟩
      exact AllReadyH.nil
    refine AllReadyH.cons (o := { dst := some 15, op := Op.alloc 43, type := 0, pos := "exact.go:3588", after := #[], guard := none }) rfl (fun K hK => ?_) ?_
    · have lz := hide (show w32.heap.size ≤ V0.heap.size from (unhide hB2).size)
      go_simp
      replace RA := hide (row_next (al1_below V0 (.cells #[.slice none 0 0] 43)) (unhide RA))
      replace RB := hide (row_next (al1_below V0 (.cells #[.slice none 0 0] 43)) (unhide RB))
      replace R0 := hide (row_next (al1_below V0 (.cells #[.slice none 0 0] 43)) (unhide R0))
      replace RX := hide (row_next (al1_below V0 (.cells #[.slice none 0 0] 43)) (unhide RX))
      replace RN := hide (row_next (al1_below V0 (.cells #[.slice none 0 0] 43)) (unhide RN))
      replace RG := hide (row_next (al1_below V0 (.cells #[.slice none 0 0] 43)) (unhide RG))
      replace S0 := hide ((unhide S0).next (al1_below V0 (.cells #[.slice none 0 0] 43)))
      replace Mg := hide ((unhide Mg).next (al1_below V0 (.cells #[.slice none 0 0] 43)))
      replace hB2 := hide (below_two (unhide hB2) (al1_below V0 (.cells #[.slice none 0 0] 43)))
      refine hK.out _ _ ?_ (fun hHeld => ?_)
      · exact ⟨row1 (unhide RA), rowRng (unhide RB)⟩
      clear hK K
      try simp only [Act.put, List.setIfInBounds_toArray, List.set_cons_zero, List.set_cons_succ]
      have RZ := hide (new_row V0 (.cells #[.slice none 0 0] 43))
      generalize V0.alloc (.cells #[.slice none 0 0] 43) = V42 at RA RB R0 RX RN RG S0 Mg RZ hB2 hHeld ⊢
      generalize V0.heap.size = bz at RZ lz ⊢
      refine wpAnyH_ready (rs := [1]) (by kernel_rfl) (by simp) ?_
      refine AllReadyH.cons (o := { dst := some 96, op := Op.call { callee := Callee.value (Operand.func 7), args := #[Operand.tmp 95], argTypes := #[24] }, type := 43, pos := "exact.go:3588", after := #[{ on := 0, ground := Ground.data }], guard := none }) rfl (fun K hK => ?_) AllReadyH.nil
      go_simp
      (go_at_call 7; go_fit (unhide T _ (below_two (unhide HB) (unhide hB2))); rintro r V43 ⟨at_, At, rfl, hp, hb⟩)
      replace RA := hide (row_next hb (unhide RA))
      replace RB := hide (row_next hb (unhide RB))
      replace R0 := hide (row_next hb (unhide R0))
      replace RX := hide (row_next hb (unhide RX))
      replace RN := hide (row_next hb (unhide RN))
      replace RG := hide (row_next hb (unhide RG))
      replace S0 := hide ((unhide S0).next hb)
      replace Mg := hide ((unhide Mg).next hb)
      replace hB2 := hide (below_two (unhide hB2) hb)
      replace RZ := hide (row_next hb (unhide RZ))
      refine hK.out _ _ ?_ (fun hHeld => ?_)
      · exact ⟨row1 (unhide RA), rowRng (unhide RB)⟩
      clear hK K
      try simp only [Act.put, List.setIfInBounds_toArray, List.set_cons_zero, List.set_cons_succ]
      have St := hide hp.sg
      clear hp hb
      refine wpAnyH_ready (rs := [3]) (by kernel_rfl) (by simp) ?_
      refine AllReadyH.cons (o := { dst := some 98, op := Op.call { callee := Callee.value (Operand.func 8), args := #[Operand.tmp 97], argTypes := #[38] }, type := 56, pos := "exact.go:3588", after := #[{ on := 2, ground := Ground.data }, { on := 1, ground := Ground.chain }], guard := none }) rfl (fun K hK => ?_) AllReadyH.nil
      go_simp
      (go_at_call 8; go_fit (unhide TN_ _ (below_two (unhide HB) (unhide hB2))); rintro r V44 ⟨st, Kt, rfl, hp, h5, hb⟩)
      replace RA := hide (row_next hb (unhide RA))
      replace RB := hide (row_next hb (unhide RB))
      replace R0 := hide (row_next hb (unhide R0))
      replace RX := hide (row_next hb (unhide RX))
      replace RN := hide (row_next hb (unhide RN))
      replace RG := hide (row_next hb (unhide RG))
      replace S0 := hide ((unhide S0).next hb)
      replace Mg := hide ((unhide Mg).next hb)
      replace hB2 := hide (below_two (unhide hB2) hb)
      replace RZ := hide (row_next hb (unhide RZ))
      replace St := hide ((unhide St).next hb)
      refine hK.out _ _ ?_ (fun hHeld => ?_)
      · exact ⟨row1 (unhide RA), rowRng (unhide RB)⟩
      clear hK K
      try simp only [Act.put, List.setIfInBounds_toArray, List.set_cons_zero, List.set_cons_succ]
      have Nt := hide (hp.ndG h5)
      clear hp h5 hb
      refine wpAnyH_ready (rs := [4]) (by kernel_rfl) (by simp) ?_
      refine AllReadyH.cons (o := { dst := some 99, op := Op.call { callee := Callee.value (Operand.func 9), args := #[Operand.tmp 96, Operand.tmp 98], argTypes := #[43, 56] }, type := 44, pos := "exact.go:3588", after := #[{ on := 1, ground := Ground.data }, { on := 3, ground := Ground.data }, { on := 3, ground := Ground.chain }], guard := none }) rfl (fun K hK => ?_) AllReadyH.nil
      have hsz := hide (show w32.heap.size ≤ V44.heap.size from (unhide hB2).size)
      go_simp
      (go_at_call 9; go_fit (unhide I_ _ _ _ _ _ _ _ (unhide St) (unhide Nt) (below_two (unhide HB) (unhide hB2))); rintro r V45 ⟨ar, cr, Ar, rfl, hp, hb⟩)
      replace RA := hide (row_next hb (unhide RA))
      replace RB := hide (row_next hb (unhide RB))
      replace R0 := hide (row_next hb (unhide R0))
      replace RX := hide (row_next hb (unhide RX))
      replace RN := hide (row_next hb (unhide RN))
      replace RG := hide (row_next hb (unhide RG))
      replace S0 := hide ((unhide S0).next hb)
      replace Mg := hide ((unhide Mg).next hb)
      replace hB2 := hide (below_two (unhide hB2) hb)
      replace RZ := hide (row_next hb (unhide RZ))
      replace St := hide ((unhide St).next hb)
      replace Nt := hide ((unhide Nt).next hb)
      refine hK.out _ _ ?_ (fun hHeld => ?_)
      · exact ⟨row1 (unhide RA), rowRng (unhide RB)⟩
      clear hK K
      try simp only [Act.put, List.setIfInBounds_toArray, List.set_cons_zero, List.set_cons_succ]
      have Sr := hide (hp.low (unhide hsz))
      clear hp hb hsz St Nt
      refine wpAnyH_take (i := 5) (oi := { dst := some 94, op := Op.move (Operand.tmp 99), type := 44, pos := "exact.go:3588", after := #[{ on := 4, ground := Ground.data }], guard := none }) (v := ?_) rfl (by kernel_rfl) (by kernel_rfl) (by kernel_rfl) (fun _ _ _ h => h) (Or.inl ⟨by rfl, ?_⟩) (by assumption) ?_
      rotate_left
      · intro w hSw; (try dsimp only at hSw); go_simp <;> with_reducible rfl
      try simp only [Act.put, List.setIfInBounds_toArray, List.set_cons_zero, List.set_cons_succ]
      refine wpAnyH_take (i := 6) (oi := { dst := some 100, op := Op.extract (Operand.tmp 94) 0, type := 43, pos := "exact.go:3588", after := #[{ on := 5, ground := Ground.data }], guard := none }) (v := ?_) rfl (by kernel_rfl) (by kernel_rfl) (by kernel_rfl) (fun _ _ _ h => h) (Or.inl ⟨by rfl, ?_⟩) (by assumption) ?_
      rotate_left
      · intro w hSw; (try dsimp only at hSw); go_simp <;> with_reducible rfl
      try simp only [Act.put, List.setIfInBounds_toArray, List.set_cons_zero, List.set_cons_succ]
      refine wpAnyH_take (i := 7) (oi := { dst := some 101, op := Op.extract (Operand.tmp 94) 1, type := 3, pos := "exact.go:3588", after := #[{ on := 5, ground := Ground.data }, { on := 9, ground := Ground.gcOnly Departure.lateStores }], guard := none }) (v := ?_) rfl (by kernel_rfl) (by kernel_rfl) (by kernel_rfl) (fun _ _ _ h => h) (Or.inl ⟨by rfl, ?_⟩) (by assumption) ?_
      rotate_left
      · intro w hSw; (try dsimp only at hSw); go_simp <;> with_reducible rfl
      try simp only [Act.put, List.setIfInBounds_toArray, List.set_cons_zero, List.set_cons_succ]
      refine wpAnyH_ready (rs := [9]) (by kernel_rfl) (by simp) ?_
      refine AllReadyH.cons (o := { dst := none, op := Op.store 43 (Operand.tmp 15) (Operand.tmp 100), type := 0, pos := "exact.go:3588", after := #[{ on := 8, ground := Ground.data }, { on := 6, ground := Ground.data }, { on := 4, ground := Ground.chain }, { on := 0, ground := Ground.phase }, { on := 1, ground := Ground.phase }, { on := 2, ground := Ground.phase }, { on := 3, ground := Ground.phase }, { on := 4, ground := Ground.phase }, { on := 5, ground := Ground.phase }, { on := 6, ground := Ground.phase }, { on := 7, ground := Ground.textOnly Departure.lateStores }, { on := 8, ground := Ground.phase }], guard := none }) rfl (fun K hK => ?_) AllReadyH.nil
      have cb := row1 (unhide RZ)
      have fb := frozen_of_row V45 bz 0 _ _ (unhide RZ)
      go_simp
      replace RA := hide (setc_other (b := bz) (j := 0) (v := (.slice ar M cr)) (by have h1 := unhide lz; have h2 := unhide CUR; have h3 := unhide ORD; omega) (unhide RA))
      replace RB := hide (setc_other (b := bz) (j := 0) (v := (.slice ar M cr)) (by have h1 := unhide lz; have h2 := unhide CUR; have h3 := unhide ORD; omega) (unhide RB))
      replace R0 := hide (setc_other (b := bz) (j := 0) (v := (.slice ar M cr)) (by have h1 := unhide lz; have h2 := unhide CUR; have h3 := unhide ORD; omega) (unhide R0))
      replace RX := hide (setc_other (b := bz) (j := 0) (v := (.slice ar M cr)) (by have h1 := unhide lz; have h2 := unhide CUR; have h3 := unhide ORD; omega) (unhide RX))
      replace RN := hide (setc_other (b := bz) (j := 0) (v := (.slice ar M cr)) (by have h1 := unhide lz; have h2 := unhide CUR; have h3 := unhide ORD; omega) (unhide RN))
      replace RG := hide (setc_other (b := bz) (j := 0) (v := (.slice ar M cr)) (by have h1 := unhide lz; have h2 := unhide CUR; have h3 := unhide ORD; omega) (unhide RG))
      replace Sr := hide (show SG (V45.setCell ⟨bz, 0, none⟩ (.slice ar M cr)) w32.heap.size (V45.setCell ⟨bz, 0, none⟩ (.slice ar M cr)).heap.size ar M cr Y Ar by have h := (unhide Sr).setk (j := 0) (v := (.slice ar M cr)) (unhide RZ); simpa [World.setCell] using h)
      replace hB2 := hide ((unhide hB2).setCell (p := ⟨bz, 0, none⟩) (unhide lz) (.slice ar M cr))
      replace RZ := hide (show (V45.setCell ⟨bz, 0, none⟩ (.slice ar M cr)).heap[bz]? = some (.cells #[(.slice ar M cr)] 43 (0, 0)) by have := setC (v := (.slice ar M cr)) (j := 0) (unhide RZ); simpa using this)
      refine hK.out _ _ ?_ (fun hHeld => ?_)
      · exact ⟨row1 (unhide RA), rowRng (unhide RB)⟩
      clear hK K
      try simp only [Act.put, List.setIfInBounds_toArray, List.set_cons_zero, List.set_cons_succ]
      clear cb fb
      refine wpAnyH_take (i := 10) (oi := { dst := some 16, op := Op.assign (Operand.tmp 101), type := 3, pos := "exact.go:3588", after := #[{ on := 7, ground := Ground.data }, { on := 9, ground := Ground.chain }, { on := 0, ground := Ground.phase }, { on := 1, ground := Ground.phase }, { on := 2, ground := Ground.phase }, { on := 3, ground := Ground.phase }, { on := 4, ground := Ground.phase }, { on := 5, ground := Ground.phase }, { on := 6, ground := Ground.phase }, { on := 7, ground := Ground.phase }, { on := 8, ground := Ground.phase }, { on := 9, ground := Ground.phase }], guard := none }) (v := ?_) rfl (by kernel_rfl) (by kernel_rfl) (by kernel_rfl) (fun _ _ _ h => h) (Or.inl ⟨by rfl, ?_⟩) (by assumption) ?_
      rotate_left
      · intro w hSw; (try dsimp only at hSw); go_simp <;> with_reducible rfl
      try simp only [Act.put, List.setIfInBounds_toArray, List.set_cons_zero, List.set_cons_succ]
      refine wpAnyH_done (by kernel_rfl) ?_ _
      go_wp2_with fail
      go_meet
      exact ⟨bz, ar, cr, Ar, rfl, rfl, unhide RZ, unhide lz, unhide Sr, unhide hB2⟩
    exact AllReadyH.nil
  case rest =>
  obtain ⟨b_Rh, a_h, c_h, A_h, rfl, rfl, Rh, hge, Sh, hb⟩ := hcut
  have hlt := hide (heap_lt Rh)
  replace Rh := hide Rh
  replace Sh := hide Sh
  replace hge := hide hge
  generalize wc = Q46 at Rh Sh hlt hb ⊢
  have lo0 := CUR
  replace RA := hide (row_next hb (unhide RA))
  replace RB := hide (row_next hb (unhide RB))
  replace R0 := hide (row_next hb (unhide R0))
  replace RX := hide (row_next hb (unhide RX))
  replace RN := hide (row_next hb (unhide RN))
  replace RG := hide (row_next hb (unhide RG))
  replace S0 := hide ((unhide S0).next hb)
  replace Mg := hide ((unhide Mg).next hb)
  replace HB := hide (below_two (unhide HB) hb)
  replace CUR := hide (Nat.le_trans (unhide CUR) (Below.size hb))
  clear hb
  obtain ⟨hi_h, hhi⟩ : ∃ h, h = Q46.heap.size := ⟨_, rfl⟩
  replace CUR := hide (show hi_h ≤ Q46.heap.size by rw [hhi]; exact Nat.le_refl _)
  rw [← hhi] at Sh hlt
  clear hhi
  generalize w32.heap.size = lo_h at Sh lo0 hge
  replace ORD := hide (And.intro (unhide ORD) (And.intro (unhide lo0) (And.intro (unhide hge) (unhide hlt))))
  clear lo0 hge hlt
  have q_Rh := row1 (unhide Rh)
  have q_R0 := row1 (unhide R0)
  go_wp2_with fail
  go_fit (unhide EY _ _ _ _ _ _ _ _ _ _ _ (unhide Sh) (unhide S0))
  rintro r w47 ⟨rfl, hb⟩
  clear q_Rh q_R0
  replace RA := hide (row_next hb (unhide RA))
  replace RB := hide (row_next hb (unhide RB))
  replace R0 := hide (row_next hb (unhide R0))
  replace RX := hide (row_next hb (unhide RX))
  replace RN := hide (row_next hb (unhide RN))
  replace RG := hide (row_next hb (unhide RG))
  replace Rh := hide (row_next hb (unhide Rh))
  replace S0 := hide ((unhide S0).next hb)
  replace Mg := hide ((unhide Mg).next hb)
  replace Sh := hide ((unhide Sh).next hb)
  replace HB := hide (below_two (unhide HB) hb)
  replace CUR := hide (Nat.le_trans (unhide CUR) (Below.size hb))
  clear hb
  have q_RG := row1 (unhide RG)
  go_wp2_with fail
  go_fit (unhide HY _ _ _ _ _ _ (unhide Mg))
  rintro r w48 ⟨rfl, hb⟩
  clear q_RG
  replace RA := hide (row_next hb (unhide RA))
  replace RB := hide (row_next hb (unhide RB))
  replace R0 := hide (row_next hb (unhide R0))
  replace RX := hide (row_next hb (unhide RX))
  replace RN := hide (row_next hb (unhide RN))
  replace RG := hide (row_next hb (unhide RG))
  replace Rh := hide (row_next hb (unhide Rh))
  replace S0 := hide ((unhide S0).next hb)
  replace Mg := hide ((unhide Mg).next hb)
  replace Sh := hide ((unhide Sh).next hb)
  replace HB := hide (below_two (unhide HB) hb)
  replace CUR := hide (Nat.le_trans (unhide CUR) (Below.size hb))
  clear hb
  go_wp2_with fail
  go_ret
  exact ⟨rfl, unhide HB⟩
end Go.Proofs.YtmafopckplpajabGreatDoor
