/-
  PlaceE: texts of one claim, in one.
-/
import Derived.Test.YtdbphpekhmlmdaaGreatDoorFnExactPlaceNodeM10
import Derived.Test.YtdbphpekhmlmdaaGreatDoorFnExactPlaceNodeM14
import Derived.Test.YtdbphpekhmlmdaaGreatDoorFnExactPlaceNodeM16

/-
  The exact law of PlaceNode. (By changelaw.py.)
-/
namespace Go.Proofs.YtdbphpekhmlmdaaGreatDoor
open Go.RowKit
set_option linter.unusedVariables false

def placeN (X : Nat → Nd) (n : Nat) (id par beh : Int) : Nat := n
theorem place_right0 {X : Nat → Nd} {n : Nat} {id par beh : Int} (h : placeC X n id par beh = 0) : ScOk (placeY X n id par beh) n := by
  unfold placeC at h
  split at h
  · cases h
  · split at h
    · cases h
    · split at h
      · cases h
      · split at h
        · cases h
        · next h4 => exact sceneOk_iff.1 (Classical.not_not.1 h4)
theorem place_fits (X : Nat → Nd) (n : Nat) (id par beh : Int) (hn : n ≤ 1048576) (ht : scT X n ≤ 1048576) (hs : ∀ i, i < n → (X i).Small) : placeN X n id par beh ≤ 1048576 ∧ (∀ i, i < placeN X n id par beh → (placeX X n id par beh i).Small) ∧ scT (placeX X n id par beh) (placeN X n id par beh) ≤ 1048576 := by
  unfold placeN
  by_cases h : placeC X n id par beh = 0
  · rw [place_yes h]
    have h1 := place_right0 h
    exact few_fit (by have := h1.1; omega) (fun i hi => (okAt_iff.1 (h1.2 i hi)).1)
  · rw [show placeX X n id par beh = X from if_neg h]
    exact ⟨hn, hs, ht⟩
theorem specPlaceNode_n (X : Nat → Nd) (A : Nat → Na) (ao : Option Addr) (n cp : Nat) (hn : n ≤ 1048576) (hs : ∀ i, i < n → (X i).Small) (hk : ∀ i, i < n → Caps (X i) (A i)) (id par beh : Int) (w : World) (P : ∀ i, i < n → NrAt w ao i (X i) (A i)) :
    Calls Tryz.prog 8 #[.agg #[.slice ao n cp], .int .i64 id, .int .i64 par, .int .i64 beh] w fun r w' => ChRes w r w' (placeC X n id par beh) (placeN X n id par beh) (placeX X n id par beh) := specPlaceNode_any X A ao n cp hn hs hk id par beh w P
theorem implPlaceNode_n (X : Nat → Nd) (A : Nat → Na) (ao : Option Addr) (n cp : Nat) (hn : n ≤ 1048576) (hc : n ≤ cp) (hao : ao = none → cp = 0) (hs : ∀ i, i < n → (X i).Small) (hk : ∀ i, i < n → Caps (X i) (A i)) (hw : Wf X n) (id par beh : Int) (w1 : (Lit.int .i64 id).wf = true) (w2 : (Lit.int .i64 par).wf = true) (w3 : (Lit.int .i64 beh).wf = true) (w : World) (P : ∀ i, i < n → NrAt w ao i (X i) (A i)) (hg : ErrT w) :
    Calls Tryz.prog 7 #[.agg #[.slice ao n cp], .int .i64 id, .int .i64 par, .int .i64 beh] w fun r w' => ChRes w r w' (placeC X n id par beh) (placeN X n id par beh) (placeX X n id par beh) := implPlaceNode_any X A ao n cp hn hc hao hs hk hw id par beh w1 w2 w3 w P hg

set_option maxHeartbeats 32000000 in
set_option maxRecDepth 100000 in
theorem fnExactPlaceNode_walk (ao : Option Addr) (n cp : Nat) (X : Nat → Nd) (A : Nat → Na) (id : Int) (par : Int) (beh : Int) (w_id : (Lit.int .i64 id).wf = true) (w_par : (Lit.int .i64 par).wf = true) (w_beh : (Lit.int .i64 beh).wf = true) (w : World) (hw : n ≤ maxLen ∧ (∀ i, i < n → (X i).Fit) ∧ ∀ i, i < n → NrAt w ao i (X i) (A i)) (hg : ErrT w) :
    Calls Tryz.prog 4 #[.agg #[.slice ao n cp], .int .i64 id, .int .i64 par, .int .i64 beh] w fun r w' => r = .returned (.bool true) ∧ Below w.heap.size w w' := by
  obtain ⟨hm, hf, P⟩ := hw
  have Z := hide (fun u (hu : Below w.heap.size w u) => szScene_any X A ao n cp hm hf u (fun i hi => (P i hi).next hu))
  by_cases hbig : 1048576 < scT X n
  · rw [if_pos hbig] at Z
    go_enter Tryz.func4, Tryz.ntmps4
    go_wp2_with fail
    go_fit (unhide Z _ (al1_below _ _))
    rintro r w1 ⟨rfl, hb⟩
    go_wp2_with fail
    go_ret
    exact ⟨rfl, below_two (al1_below _ _) hb⟩
  rw [if_neg hbig] at Z
  have hpos : ¬ ((1048576 : Int) - (scT X n : Int) < 0) := by omega
  have hn : n ≤ 1048576 := by unfold scT at hbig; omega
  have hs : ∀ i, i < n → (X i).Small := fun i hi => Nd.small (by have := sumT_le X hi; unfold scT at hbig; omega)
  have hwf : Wf X n := ⟨fun i hi => (hf i hi).idw, fun i hi => (hf i hi).parw⟩
  have T := hide (fun u (hu : Below w.heap.size w u) => toScene_own X A ao n cp hn hs u (fun i hi => (P i hi).next hu))
  have S_ := hide (fun (u : World) (a : Option Addr) (A' : Nat → Na) (base t : Nat) (h : SG u base t a n n X A') => specPlaceNode_n X A' a n n hn hs h.caps id par beh u h.nodes)
  have I_ := hide (fun (u : World) (a : Option Addr) (A' : Nat → Na) (base t : Nat) (h : SG u base t a n n X A') (hu : Below w.heap.size w u) => implPlaceNode_n X A' a n n hn h.cap.1 h.cap.2 hs h.caps hwf id par beh w_id w_par w_beh u h.nodes (hg.next hu))
  obtain ⟨fM, fS, fT⟩ := place_fits X n id par beh (by omega) (by omega) hs
  have EX := hide (fun (u : World) (a a' : Option Addr) (A1 A2 : Nat → Na) (base t base' : Nat) (h : SG u base t a n n X A1) (h' : ScV u base' a' n n X A2) => eqScene_same X A1 A2 a a' n n n hn hs u h.nodes h'.nodes)
  have MX := hide (fun (u : World) (a : Option Addr) (A' : Nat → Na) (base t : Nat) (h : SG u base t a n n X A') => markScene_g X A' a n n base t hs (by omega) u h)
  have hk1 := hide (show kG X n ≤ 100000000 by have := kG_le X n; unfold scT at hbig; omega)
  generalize placeC X n id par beh = C at S_ I_
  generalize placeX X n id par beh = Y at S_ I_ fS fT
  generalize placeN X n id par beh = M at S_ I_ fM fS fT
  have EY := hide (fun (u : World) (a a' : Option Addr) (c1 c2 : Nat) (A1 A2 : Nat → Na) (base base' t t' : Nat) (h : SG u base t a M c1 Y A1) (h' : SG u base' t' a' M c2 Y A2) => eqScene_same Y A1 A2 a a' M c1 c2 fM fS u h.nodes h'.nodes)
  have MY := hide (fun (u : World) (a : Option Addr) (c1 : Nat) (A' : Nat → Na) (base t : Nat) (h : SG u base t a M c1 Y A') => markScene_g Y A' a M c1 base t fS fT u h)
  have HY := hide (fun (u : World) (a : Option Addr) (c1 : Nat) (A' : Nat → Na) (base t : Nat) (h : MD u base t a M c1 Y A') => heldScene_g Y A' a M c1 base t fS fT u h)
  have hq1 : ¬ (((kG X n : Nat) : Int) < 0) := by omega
  have hq2 : ¬ (((kG Y M : Nat) : Int) < 0) := by omega
  clear P hm hf hbig hn hs hwf fM fS fT
  go_enter Tryz.func4, Tryz.ntmps4
  go_upto_region 1 with fail
  have RA := hide (new_row w (.cells #[.slice ao n cp] 51))
  have HB := hide (al1_below w (.cells #[.slice ao n cp] 51))
  obtain ⟨b_RA, hbA⟩ : ∃ b, Hid (b = w.heap.size) := ⟨_, rfl⟩
  rw [← unhide hbA] at RA
  rw [← unhide hbA]
  have ORD := hide (show w.heap.size ≤ b_RA by rw [unhide hbA]; exact Nat.le_refl _)
  have CUR := hide (show b_RA + 1 ≤ (w.alloc (.cells #[.slice ao n cp] 51)).heap.size by rw [unhide hbA, al1_size]; exact Nat.le_refl _)
  generalize w.alloc (.cells #[.slice ao n cp] 51) = W0 at RA HB CUR ⊢
  clear hbA
  have q_RA := row1 (unhide RA)
  go_wp2_with fail
  go_fit (unhide Z _ (unhide HB))
  rintro r w1 ⟨rfl, hb⟩
  clear q_RA
  replace RA := hide (row_next hb (unhide RA))
  replace HB := hide (below_two (unhide HB) hb)
  replace CUR := hide (Nat.le_trans (unhide CUR) (Below.size hb))
  clear hb
  clear Z
  have q_RA := row1 (unhide RA)
  go_wp2_with fail
  go_fit (unhide T _ (unhide HB))
  rintro r w2 ⟨a_t, A_t, rfl, hp, hb⟩
  clear q_RA
  have St := hide (hp.sg)
  have lo0 := CUR
  have lo1 := hide (Below.size hb)
  replace RA := hide (row_next hb (unhide RA))
  replace HB := hide (below_two (unhide HB) hb)
  replace CUR := hide (Nat.le_trans (unhide CUR) (Below.size hb))
  clear hb
  obtain ⟨hi_t, hhi⟩ : ∃ h, h = w2.heap.size := ⟨_, rfl⟩
  replace CUR := hide (show hi_t ≤ w2.heap.size by rw [hhi]; exact Nat.le_refl _)
  rw [← hhi] at St lo1
  clear hhi
  generalize w1.heap.size = lo_t at St lo0 lo1
  replace ORD := hide (And.intro (unhide ORD) (And.intro (unhide lo0) (unhide lo1)))
  clear lo0 lo1
  go_wp2_with fail
  go_fit (unhide S_ _ _ _ _ _ (unhide St))
  rintro r w3 ⟨a_0, c_0, A_0, rfl, hp, hb⟩
  have S0 := hide (hp)
  have lo0 := CUR
  have lo1 := hide (Below.size hb)
  replace RA := hide (row_next hb (unhide RA))
  replace St := hide ((unhide St).next hb)
  replace HB := hide (below_two (unhide HB) hb)
  replace CUR := hide (Nat.le_trans (unhide CUR) (Below.size hb))
  clear hb
  obtain ⟨hi_0, hhi⟩ : ∃ h, h = w3.heap.size := ⟨_, rfl⟩
  replace CUR := hide (show hi_0 ≤ w3.heap.size by rw [hhi]; exact Nat.le_refl _)
  rw [← hhi] at S0 lo1
  clear hhi
  generalize w2.heap.size = lo_0 at S0 lo0 lo1
  replace ORD := hide (And.intro (unhide ORD) (And.intro (unhide lo0) (unhide lo1)))
  clear lo0 lo1
  clear St
  go_upto_region 6 with fail
  have lo0 := CUR
  have R0 := hide (new_row w3 (.cells #[.slice a_0 M c_0] 26))
  have hb := al1_below w3 (.cells #[.slice a_0 M c_0] 26)
  replace RA := hide (row_next hb (unhide RA))
  replace S0 := hide ((unhide S0).next hb)
  replace HB := hide (below_two (unhide HB) hb)
  replace CUR := hide (Nat.le_trans (unhide CUR) (Below.size hb))
  clear hb
  replace CUR := hide (show w3.heap.size + 1 ≤ (w3.alloc (.cells #[.slice a_0 M c_0] 26)).heap.size by rw [al1_size]; exact Nat.le_refl _)
  generalize w3.alloc (.cells #[.slice a_0 M c_0] 26) = W4 at RA S0 R0 HB CUR ⊢
  generalize w3.heap.size = b_R0 at R0 CUR lo0 ⊢
  replace ORD := hide (And.intro (unhide ORD) (unhide lo0))
  clear lo0
  have q_RA := row1 (unhide RA)
  go_wp2_with fail
  go_fit (unhide T _ (unhide HB))
  rintro r w5 ⟨a_x, A_x, rfl, hp, hb⟩
  clear q_RA
  have Sx := hide (hp.sg)
  have lo0 := CUR
  have lo1 := hide (Below.size hb)
  replace RA := hide (row_next hb (unhide RA))
  replace R0 := hide (row_next hb (unhide R0))
  replace S0 := hide ((unhide S0).next hb)
  replace HB := hide (below_two (unhide HB) hb)
  replace CUR := hide (Nat.le_trans (unhide CUR) (Below.size hb))
  clear hb
  obtain ⟨hi_x, hhi⟩ : ∃ h, h = w5.heap.size := ⟨_, rfl⟩
  replace CUR := hide (show hi_x ≤ w5.heap.size by rw [hhi]; exact Nat.le_refl _)
  rw [← hhi] at Sx lo1
  clear hhi
  generalize W4.heap.size = lo_x at Sx lo0 lo1
  replace ORD := hide (And.intro (unhide ORD) (And.intro (unhide lo0) (unhide lo1)))
  clear lo0 lo1
  go_upto_region 7 with fail
  have lo0 := CUR
  have RX := hide (new_row w5 (.cells #[.slice a_x n n] 26))
  have hb := al1_below w5 (.cells #[.slice a_x n n] 26)
  replace RA := hide (row_next hb (unhide RA))
  replace R0 := hide (row_next hb (unhide R0))
  replace S0 := hide ((unhide S0).next hb)
  replace Sx := hide ((unhide Sx).next hb)
  replace HB := hide (below_two (unhide HB) hb)
  replace CUR := hide (Nat.le_trans (unhide CUR) (Below.size hb))
  clear hb
  replace CUR := hide (show w5.heap.size + 1 ≤ (w5.alloc (.cells #[.slice a_x n n] 26)).heap.size by rw [al1_size]; exact Nat.le_refl _)
  generalize w5.alloc (.cells #[.slice a_x n n] 26) = W6 at RA R0 S0 Sx RX HB CUR ⊢
  generalize w5.heap.size = b_RX at RX CUR lo0 ⊢
  replace ORD := hide (And.intro (unhide ORD) (unhide lo0))
  clear lo0
  have q_RX := row1 (unhide RX)
  go_wp2_with fail
  go_fit (unhide I_ _ _ _ _ _ (unhide Sx) (unhide HB))
  rintro r w7 ⟨a_g, c_g, A_g, rfl, hp, hb⟩
  clear q_RX
  have Sg := hide (hp)
  have lo0 := CUR
  have lo1 := hide (Below.size hb)
  replace RA := hide (row_next hb (unhide RA))
  replace R0 := hide (row_next hb (unhide R0))
  replace RX := hide (row_next hb (unhide RX))
  replace S0 := hide ((unhide S0).next hb)
  replace Sx := hide ((unhide Sx).next hb)
  replace HB := hide (below_two (unhide HB) hb)
  replace CUR := hide (Nat.le_trans (unhide CUR) (Below.size hb))
  clear hb
  obtain ⟨hi_g, hhi⟩ : ∃ h, h = w7.heap.size := ⟨_, rfl⟩
  replace CUR := hide (show hi_g ≤ w7.heap.size by rw [hhi]; exact Nat.le_refl _)
  rw [← hhi] at Sg lo1
  clear hhi
  generalize W6.heap.size = lo_g at Sg lo0 lo1
  replace ORD := hide (And.intro (unhide ORD) (And.intro (unhide lo0) (unhide lo1)))
  clear lo0 lo1
  go_upto_region 8 with fail
  have lo0 := CUR
  have RG := hide (new_row w7 (.cells #[.slice a_g M c_g] 26))
  have hb := al1_below w7 (.cells #[.slice a_g M c_g] 26)
  replace RA := hide (row_next hb (unhide RA))
  replace R0 := hide (row_next hb (unhide R0))
  replace RX := hide (row_next hb (unhide RX))
  replace S0 := hide ((unhide S0).next hb)
  replace Sx := hide ((unhide Sx).next hb)
  replace Sg := hide ((unhide Sg).next hb)
  replace HB := hide (below_two (unhide HB) hb)
  replace CUR := hide (Nat.le_trans (unhide CUR) (Below.size hb))
  clear hb
  replace CUR := hide (show w7.heap.size + 1 ≤ (w7.alloc (.cells #[.slice a_g M c_g] 26)).heap.size by rw [al1_size]; exact Nat.le_refl _)
  generalize w7.alloc (.cells #[.slice a_g M c_g] 26) = W8 at RA R0 RX S0 Sx Sg RG HB CUR ⊢
  generalize w7.heap.size = b_RG at RG CUR lo0 ⊢
  replace ORD := hide (And.intro (unhide ORD) (unhide lo0))
  clear lo0
  have q_RG := row1 (unhide RG)
  have q_R0 := row1 (unhide R0)
  go_wp2_with fail
  go_fit (unhide EY _ _ _ _ _ _ _ _ _ _ _ (unhide Sg) (unhide S0))
  rintro r w9 ⟨rfl, hb⟩
  clear q_RG q_R0
  replace RA := hide (row_next hb (unhide RA))
  replace R0 := hide (row_next hb (unhide R0))
  replace RX := hide (row_next hb (unhide RX))
  replace RG := hide (row_next hb (unhide RG))
  replace S0 := hide ((unhide S0).next hb)
  replace Sx := hide ((unhide Sx).next hb)
  replace Sg := hide ((unhide Sg).next hb)
  replace HB := hide (below_two (unhide HB) hb)
  replace CUR := hide (Nat.le_trans (unhide CUR) (Below.size hb))
  clear hb
  go_upto_region 10 with fail
  refine wp_region_held_drew (S := (fun u => u.cell? ⟨b_RX, 0, none⟩ = some (.slice a_x n n) ∧ u.cell? ⟨b_RA, 0, none⟩ = some (.slice ao n cp))) (by kernel_rfl) ?_ (fun hHeld => ?_)
  · exact ⟨row1 (unhide RX), row1 (unhide RA)⟩
  have hB2 := hide (show Below w9.heap.size w9 w9.drew from (Below.refl _ _).drew)
  replace RA := hide (row_next (unhide hB2) (unhide RA))
  replace R0 := hide (row_next (unhide hB2) (unhide R0))
  replace RX := hide (row_next (unhide hB2) (unhide RX))
  replace RG := hide (row_next (unhide hB2) (unhide RG))
  replace S0 := hide ((unhide S0).next (unhide hB2))
  replace Sx := hide ((unhide Sx).next (unhide hB2))
  replace Sg := hide ((unhide Sg).next (unhide hB2))
  generalize w9.drew = V0 at RA R0 RX RG S0 Sx Sg hB2 hHeld ⊢
  refine wpAnyH_take (i := 0) (oi := { dst := some 53, op := Op.load 26 (Operand.tmp 12), type := 26, pos := "exact.go:3515", after := #[], guard := none }) (v := ?_) rfl (by kernel_rfl) (by kernel_rfl) (by kernel_rfl) (fun _ _ _ h => h) (Or.inl ⟨by rfl, ?_⟩) (by assumption) ?_
  rotate_left
  · intro w hSw; (try dsimp only at hSw); go_simp <;> with_reducible rfl
  try simp only [Act.put, List.setIfInBounds_toArray, List.set_cons_zero, List.set_cons_succ]
  refine wpAnyH_take (i := 1) (oi := { dst := some 54, op := Op.load 51 (Operand.tmp 4), type := 51, pos := "exact.go:3515", after := #[], guard := none }) (v := ?_) rfl (by kernel_rfl) (by kernel_rfl) (by kernel_rfl) (fun _ _ _ h => h) (Or.inl ⟨by rfl, ?_⟩) (by assumption) ?_
  rotate_left
  · intro w hSw; (try dsimp only at hSw); go_simp <;> with_reducible rfl
  try simp only [Act.put, List.setIfInBounds_toArray, List.set_cons_zero, List.set_cons_succ]
  refine wpAnyH_ready (rs := [2]) (by kernel_rfl) (by simp) ?_
  refine AllReadyH.cons (o := { dst := some 55, op := Op.call { callee := Callee.value (Operand.func 14), args := #[Operand.tmp 54], argTypes := #[51] }, type := 26, pos := "exact.go:3515", after := #[{ on := 1, ground := Ground.data }], guard := none }) rfl (fun K hK => ?_) AllReadyH.nil
  go_simp
  (go_at_call 14; go_fit (unhide T _ (below_two (unhide HB) (unhide hB2))); rintro r V10 ⟨a_v, A_v, rfl, hp, hb⟩)
  replace RA := hide (row_next hb (unhide RA))
  replace R0 := hide (row_next hb (unhide R0))
  replace RX := hide (row_next hb (unhide RX))
  replace RG := hide (row_next hb (unhide RG))
  replace S0 := hide ((unhide S0).next hb)
  replace Sx := hide ((unhide Sx).next hb)
  replace Sg := hide ((unhide Sg).next hb)
  replace hB2 := hide (below_two (unhide hB2) hb)
  refine hK.out _ _ ?_ (fun hHeld => ?_)
  · exact ⟨row1 (unhide RX), row1 (unhide RA)⟩
  clear hK K
  try simp only [Act.put, List.setIfInBounds_toArray, List.set_cons_zero, List.set_cons_succ]
  replace hp := hide hp
  clear hb
  refine wpAnyH_ready (rs := [3]) (by kernel_rfl) (by simp) ?_
  refine AllReadyH.cons (o := { dst := some 56, op := Op.call { callee := Callee.value (Operand.func 15), args := #[Operand.tmp 53, Operand.tmp 55], argTypes := #[26, 26] }, type := 4, pos := "exact.go:3515", after := #[{ on := 0, ground := Ground.data }, { on := 2, ground := Ground.data }, { on := 2, ground := Ground.chain }], guard := none }) rfl (fun K hK => ?_) AllReadyH.nil
  go_simp
  (go_at_call 15; go_fit (unhide EX _ _ _ _ _ _ _ _ (unhide Sx) (unhide hp)); rintro r V11 ⟨rfl, hb⟩)
  replace RA := hide (row_next hb (unhide RA))
  replace R0 := hide (row_next hb (unhide R0))
  replace RX := hide (row_next hb (unhide RX))
  replace RG := hide (row_next hb (unhide RG))
  replace S0 := hide ((unhide S0).next hb)
  replace Sx := hide ((unhide Sx).next hb)
  replace Sg := hide ((unhide Sg).next hb)
  replace hB2 := hide (below_two (unhide hB2) hb)
  refine hK.out _ _ ?_ (fun hHeld => ?_)
  · exact ⟨row1 (unhide RX), row1 (unhide RA)⟩
  clear hK K
  try simp only [Act.put, List.setIfInBounds_toArray, List.set_cons_zero, List.set_cons_succ]
  clear hb hp
  refine wpAnyH_take (i := 4) (oi := { dst := some 57, op := Op.unOp UnOp.not 4 (Operand.tmp 56), type := 4, pos := "exact.go:3515", after := #[{ on := 3, ground := Ground.data }], guard := none }) (v := ?_) rfl (by kernel_rfl) (by kernel_rfl) (by kernel_rfl) (fun _ _ _ h => h) (Or.inl ⟨by rfl, ?_⟩) (by assumption) ?_
  rotate_left
  · intro w hSw; (try dsimp only at hSw); go_simp <;> with_reducible rfl
  try simp only [Act.put, List.setIfInBounds_toArray, List.set_cons_zero, List.set_cons_succ]
  refine wpAnyH_done (by kernel_rfl) ?_ _
  replace CUR := hide (Nat.le_trans (unhide CUR) (Below.size (unhide hB2)))
  replace HB := hide (below_two (unhide HB) (unhide hB2))
  clear hB2
  have q_RX := row1 (unhide RX)
  go_wp2_with fail
  go_fit (unhide MX _ _ _ _ _ (unhide Sx))
  rintro r w12 ⟨rfl, hm, hF⟩
  clear q_RX
  have oo := unhide ORD
  replace RA := hide ((hF.out b_RA (heap_lt (unhide RA)) (by omega)).trans (unhide RA))
  replace R0 := hide ((hF.out b_R0 (heap_lt (unhide R0)) (by omega)).trans (unhide R0))
  replace RX := hide ((hF.out b_RX (heap_lt (unhide RX)) (by omega)).trans (unhide RX))
  replace RG := hide ((hF.out b_RG (heap_lt (unhide RG)) (by omega)).trans (unhide RG))
  replace S0 := hide ((unhide S0).far hF (by omega))
  replace Sg := hide ((unhide Sg).far hF (by omega))
  replace HB := hide ((unhide HB).trans (hF.below (by omega) (unhide HB).size))
  replace CUR := hide (Nat.le_trans (unhide CUR) hF.size)
  clear Sx hF oo
  clear hm
  have q_RG := row1 (unhide RG)
  have q_R0 := row1 (unhide R0)
  go_wp2_with fail
  go_fit (unhide EY _ _ _ _ _ _ _ _ _ _ _ (unhide Sg) (unhide S0))
  rintro r w13 ⟨rfl, hb⟩
  clear q_RG q_R0
  replace RA := hide (row_next hb (unhide RA))
  replace R0 := hide (row_next hb (unhide R0))
  replace RX := hide (row_next hb (unhide RX))
  replace RG := hide (row_next hb (unhide RG))
  replace S0 := hide ((unhide S0).next hb)
  replace Sg := hide ((unhide Sg).next hb)
  replace HB := hide (below_two (unhide HB) hb)
  replace CUR := hide (Nat.le_trans (unhide CUR) (Below.size hb))
  clear hb
  have q_RG := row1 (unhide RG)
  go_wp2_with fail
  go_fit (unhide MY _ _ _ _ _ _ (unhide Sg))
  rintro r w14 ⟨rfl, hm, hF⟩
  clear q_RG
  have oo := unhide ORD
  replace RA := hide ((hF.out b_RA (heap_lt (unhide RA)) (by omega)).trans (unhide RA))
  replace R0 := hide ((hF.out b_R0 (heap_lt (unhide R0)) (by omega)).trans (unhide R0))
  replace RX := hide ((hF.out b_RX (heap_lt (unhide RX)) (by omega)).trans (unhide RX))
  replace RG := hide ((hF.out b_RG (heap_lt (unhide RG)) (by omega)).trans (unhide RG))
  replace S0 := hide ((unhide S0).far hF (by omega))
  replace HB := hide ((unhide HB).trans (hF.below (by omega) (unhide HB).size))
  replace CUR := hide (Nat.le_trans (unhide CUR) hF.size)
  clear Sg hF oo
  have Mg := hide hm
  clear hm
  have q_RG := row1 (unhide RG)
  go_wp2_with fail
  go_fit (unhide HY _ _ _ _ _ _ (unhide Mg))
  rintro r w15 ⟨rfl, hb⟩
  clear q_RG
  replace RA := hide (row_next hb (unhide RA))
  replace R0 := hide (row_next hb (unhide R0))
  replace RX := hide (row_next hb (unhide RX))
  replace RG := hide (row_next hb (unhide RG))
  replace S0 := hide ((unhide S0).next hb)
  replace Mg := hide ((unhide Mg).next hb)
  replace HB := hide (below_two (unhide HB) hb)
  replace CUR := hide (Nat.le_trans (unhide CUR) (Below.size hb))
  clear hb
  have q_RA := row1 (unhide RA)
  go_wp2_with fail
  go_fit (unhide T _ (unhide HB))
  rintro r w16 ⟨a_u, A_u, rfl, hp, hb⟩
  clear q_RA
  have Su := hide (hp.sg)
  have lo0 := CUR
  have lo1 := hide (Below.size hb)
  replace RA := hide (row_next hb (unhide RA))
  replace R0 := hide (row_next hb (unhide R0))
  replace RX := hide (row_next hb (unhide RX))
  replace RG := hide (row_next hb (unhide RG))
  replace S0 := hide ((unhide S0).next hb)
  replace Mg := hide ((unhide Mg).next hb)
  replace HB := hide (below_two (unhide HB) hb)
  replace CUR := hide (Nat.le_trans (unhide CUR) (Below.size hb))
  clear hb
  obtain ⟨hi_u, hhi⟩ : ∃ h, h = w16.heap.size := ⟨_, rfl⟩
  replace CUR := hide (show hi_u ≤ w16.heap.size by rw [hhi]; exact Nat.le_refl _)
  rw [← hhi] at Su lo1
  clear hhi
  generalize w15.heap.size = lo_u at Su lo0 lo1
  replace ORD := hide (And.intro (unhide ORD) (And.intro (unhide lo0) (unhide lo1)))
  clear lo0 lo1
  go_wp2_with fail
  go_fit (unhide I_ _ _ _ _ _ (unhide Su) (unhide HB))
  rintro r w17 ⟨a_h, c_h, A_h, rfl, hp, hb⟩
  have Sh := hide (hp)
  have lo0 := CUR
  have lo1 := hide (Below.size hb)
  replace RA := hide (row_next hb (unhide RA))
  replace R0 := hide (row_next hb (unhide R0))
  replace RX := hide (row_next hb (unhide RX))
  replace RG := hide (row_next hb (unhide RG))
  replace S0 := hide ((unhide S0).next hb)
  replace Mg := hide ((unhide Mg).next hb)
  replace Su := hide ((unhide Su).next hb)
  replace HB := hide (below_two (unhide HB) hb)
  replace CUR := hide (Nat.le_trans (unhide CUR) (Below.size hb))
  clear hb
  obtain ⟨hi_h, hhi⟩ : ∃ h, h = w17.heap.size := ⟨_, rfl⟩
  replace CUR := hide (show hi_h ≤ w17.heap.size by rw [hhi]; exact Nat.le_refl _)
  rw [← hhi] at Sh lo1
  clear hhi
  generalize w16.heap.size = lo_h at Sh lo0 lo1
  replace ORD := hide (And.intro (unhide ORD) (And.intro (unhide lo0) (unhide lo1)))
  clear lo0 lo1
  clear Su
  go_upto_region 25 with fail
  have lo0 := CUR
  have Rh := hide (new_row w17 (.cells #[.slice a_h M c_h] 26))
  have hb := al1_below w17 (.cells #[.slice a_h M c_h] 26)
  replace RA := hide (row_next hb (unhide RA))
  replace R0 := hide (row_next hb (unhide R0))
  replace RX := hide (row_next hb (unhide RX))
  replace RG := hide (row_next hb (unhide RG))
  replace S0 := hide ((unhide S0).next hb)
  replace Mg := hide ((unhide Mg).next hb)
  replace Sh := hide ((unhide Sh).next hb)
  replace HB := hide (below_two (unhide HB) hb)
  replace CUR := hide (Nat.le_trans (unhide CUR) (Below.size hb))
  clear hb
  replace CUR := hide (show w17.heap.size + 1 ≤ (w17.alloc (.cells #[.slice a_h M c_h] 26)).heap.size by rw [al1_size]; exact Nat.le_refl _)
  generalize w17.alloc (.cells #[.slice a_h M c_h] 26) = W18 at RA R0 RX RG S0 Mg Sh Rh HB CUR ⊢
  generalize w17.heap.size = b_Rh at Rh CUR lo0 ⊢
  replace ORD := hide (And.intro (unhide ORD) (unhide lo0))
  clear lo0
  have q_Rh := row1 (unhide Rh)
  have q_R0 := row1 (unhide R0)
  go_wp2_with fail
  go_fit (unhide EY _ _ _ _ _ _ _ _ _ _ _ (unhide Sh) (unhide S0))
  rintro r w19 ⟨rfl, hb⟩
  clear q_Rh q_R0
  replace RA := hide (row_next hb (unhide RA))
  replace R0 := hide (row_next hb (unhide R0))
  replace RX := hide (row_next hb (unhide RX))
  replace RG := hide (row_next hb (unhide RG))
  replace Rh := hide (row_next hb (unhide Rh))
  replace S0 := hide ((unhide S0).next hb)
  replace Mg := hide ((unhide Mg).next hb)
  replace Sh := hide ((unhide Sh).next hb)
  replace HB := hide (below_two (unhide HB) hb)
  replace CUR := hide (Nat.le_trans (unhide CUR) (Below.size hb))
  clear hb
  have q_RG := row1 (unhide RG)
  go_wp2_with fail
  go_fit (unhide HY _ _ _ _ _ _ (unhide Mg))
  rintro r w20 ⟨rfl, hb⟩
  clear q_RG
  replace RA := hide (row_next hb (unhide RA))
  replace R0 := hide (row_next hb (unhide R0))
  replace RX := hide (row_next hb (unhide RX))
  replace RG := hide (row_next hb (unhide RG))
  replace Rh := hide (row_next hb (unhide Rh))
  replace S0 := hide ((unhide S0).next hb)
  replace Mg := hide ((unhide Mg).next hb)
  replace Sh := hide ((unhide Sh).next hb)
  replace HB := hide (below_two (unhide HB) hb)
  replace CUR := hide (Nat.le_trans (unhide CUR) (Below.size hb))
  clear hb
  go_wp2_with fail
  go_ret
  exact ⟨rfl, unhide HB⟩
end Go.Proofs.YtdbphpekhmlmdaaGreatDoor
