/-
  The specification's ParsePath.
-/
import Derived.Test.YtkhacppaemilgaaDoorParseP
namespace Go.Proofs.YtkhacppaemilgaaDoor
open Go.RowKit

def ParseRes (w : World) (r : Ending) (w' : World) (s : List UInt8) : Prop :=
  (∃ v1 v2 vs ps, r = .returned (.tuple #[.agg #[v1, v2], .bool true]) ∧ OwnPath w' w.heap.size v1 v2 vs.length ps.length (vs.map Iv) (ptsV ps) ∧ Right (listI vs) vs.length (listP ps) ps.length ∧ textN (listI vs) (listP ps) vs.length = s ∧
    AllQ s (fun vf n pf m => n = vs.length ∧ m = ps.length ∧ (∀ j, j < n → vf j = listI vs j) ∧ ∀ j, j < m → pf j = listP ps j) ∧ Below w.heap.size w w') ∨
  (r = .returned (.tuple #[.agg #[.slice none 0 0, .slice none 0 0], .bool false]) ∧ AllQ s (fun _ _ _ _ => False) ∧ Below w.heap.size w w')
theorem textN_nil {vf : Nat → Int} {pf : Nat → Int × Int} {n : Nat} (h : textN vf pf n = []) : n = 0 := by
  cases n with
  | zero => rfl
  | succ k => simp [textN] at h
theorem right_nil : Right (listI []) 0 (listP []) 0 := ⟨by omega, by omega, fun i hi => absurd hi (by omega), fun i hi => absurd hi (by omega), rfl⟩
/-- A word of the list, as a cell. -/
theorem word_cell {w : World} {base : Nat} {g n cap : Nat} {L : List (List UInt8)} (h : w.ownsRow base 9 1 (.slice (some ⟨g, 0, none⟩) n cap) n (L.map Sv)) {i : Nat} (hi : i < n) {wd : List UInt8} (hw : L[i]? = some wd) : w.cell? ⟨g, i, none⟩ = some (.string ⟨wd.toArray⟩) := by
  rw [h.cellAt i (by omega), List.getElem?_map, hw]; rfl

/-- What stands in memory while a path is read. -/
structure St (w W u : World) (B : Nat) (lp : Option Addr) (lc : Nat) (L : List (List UInt8)) (a1 : Option Addr) (c1 : Nat) (vs : List Int) (a2 : Option Addr) (c2 : Nat) (ps : List (Int × Int)) : Prop where
  r0 : u.heap[w.heap.size]? = some (.cells #[.slice none 0 0, .slice none 0 0] 27 (0, 0))
  r1 : u.heap[w.heap.size + 1]? = some (.cells #[.slice a1 vs.length c1, .slice a2 ps.length c2] 27 (0, 0))
  list : u.ownsRow W.heap.size 9 1 (.slice lp L.length lc) L.length (L.map Sv)
  o1 : u.ownsRow B 3 1 (.slice a1 vs.length c1) vs.length (vs.map Iv)
  o2 : u.ownsRow B 44 2 (.slice a2 ps.length c2) ps.length (ptsV ps)
  below : Below w.heap.size w u
  size : B ≤ u.heap.size
  lo : w.heap.size + 1 < W.heap.size
  hi : W.heap.size ≤ B
  lb : ∀ k, (Value.slice lp L.length lc).ownBlock = some k → k < B
theorem St.next {w W u u' : World} {B : Nat} {lp : Option Addr} {lc : Nat} {L : List (List UInt8)} {a1 : Option Addr} {c1 : Nat} {vs : List Int} {a2 : Option Addr} {c2 : Nat} {ps : List (Int × Int)} (h : St w W u B lp lc L a1 c1 vs a2 c2 ps) (hb : Below u.heap.size u u') : St w W u' B lp lc L a1 c1 vs a2 c2 ps :=
  ⟨row_next hb h.r0, row_next hb h.r1, own_below h.list hb, own_below h.o1 hb, own_below h.o2 hb, below_two h.below hb, Nat.le_trans h.size hb.size, h.lo, h.hi, h.lb⟩
theorem St.push1 {w W u w2 : World} {B : Nat} {lp : Option Addr} {lc : Nat} {L : List (List UInt8)} {a1 a1' : Option Addr} {c1 c1' : Nat} {vs : List Int} {a2 : Option Addr} {c2 : Nat} {ps : List (Int × Int)} {o : Obj} {z : Int} (h : St w W u B lp lc L a1 c1 vs a2 c2 ps)
    (hg : (u.alloc o).grownBy w2 (Value.slice a1 vs.length c1).ownBlock) (ho : w2.ownsRow B 3 1 (.slice a1' (vs.length + 1) c1') (vs.length + 1) (vs.map Iv ++ [Iv z])) :
    St w W (w2.setCell ⟨w.heap.size + 1, 0, none⟩ (.slice a1' (vs.length + 1) c1')) B lp lc L a1' c1' (vs ++ [z]) a2 c2 ps := by
  have hl : (vs ++ [z]).length = vs.length + 1 := by simp
  have hm : (vs ++ [z]).map Iv = vs.map Iv ++ [Iv z] := by simp
  have hbB : Below B u w2 := ((Below.refl B u).alloc h.size o).grown hg (by simp; have := h.size; omega) (fun k hk => (h.o1.lt k hk).1)
  have h1 := h.lo
  have h2 := h.hi
  refine ⟨setc_other (by omega) ((hbB.block _ (by omega)).trans h.r0), ?_, own_setc_ne (own_part h.list hbB h.lb) (fun k hk e => by have := (h.list.lt k hk).1; omega), ?_, own_setc_ne ((h.o2.alloc o).kept hg (own_types h.o2 h.o1 (by decide))) (fun k hk e => by have := (h.o2.lt k hk).1; omega), (h.below.trans (hbB.mono (by omega))).setCell (p := ⟨w.heap.size + 1, 0, none⟩) (by dsimp only; omega) _, by rw [setc_size]; exact Nat.le_trans h.size hbB.size, h.lo, h.hi, h.lb⟩
  · rw [hl]; exact set2_0 ((hbB.block _ (by omega)).trans h.r1)
  · rw [hl, hm]; exact own_setc_ne ho (fun k hk e => by have := (ho.lt k hk).1; omega)
theorem St.push2 {w W u w2 : World} {B : Nat} {lp : Option Addr} {lc : Nat} {L : List (List UInt8)} {a1 : Option Addr} {c1 : Nat} {vs : List Int} {a2 a2' : Option Addr} {c2 c2' : Nat} {ps : List (Int × Int)} {o : Obj} {z : Int × Int} (h : St w W u B lp lc L a1 c1 vs a2 c2 ps)
    (hg : (u.alloc o).grownBy w2 (Value.slice a2 ps.length c2).ownBlock) (ho : w2.ownsRow B 44 2 (.slice a2' (ps.length + 1) c2') (ps.length + 1) (ptsV ps ++ ptV z)) :
    St w W (w2.setCell ⟨w.heap.size + 1, 1, none⟩ (.slice a2' (ps.length + 1) c2')) B lp lc L a1 c1 vs a2' c2' (ps ++ [z]) := by
  have hl : (ps ++ [z]).length = ps.length + 1 := by simp
  have hm : ptsV (ps ++ [z]) = ptsV ps ++ ptV z := by rw [ptsV_app]; simp [ptsV]
  have hbB : Below B u w2 := ((Below.refl B u).alloc h.size o).grown hg (by simp; have := h.size; omega) (fun k hk => (h.o2.lt k hk).1)
  have h1 := h.lo
  have h2 := h.hi
  refine ⟨setc_other (by omega) ((hbB.block _ (by omega)).trans h.r0), ?_, own_setc_ne (own_part h.list hbB h.lb) (fun k hk e => by have := (h.list.lt k hk).1; omega), own_setc_ne ((h.o1.alloc o).kept hg (own_types h.o1 h.o2 (by decide))) (fun k hk e => by have := (h.o1.lt k hk).1; omega), ?_, (h.below.trans (hbB.mono (by omega))).setCell (p := ⟨w.heap.size + 1, 1, none⟩) (by dsimp only; omega) _, by rw [setc_size]; exact Nat.le_trans h.size hbB.size, h.lo, h.hi, h.lb⟩
  · rw [hl]; exact set2_1 ((hbB.block _ (by omega)).trans h.r1)
  · rw [hl, hm]; exact own_setc_ne ho (fun k hk e => by have := (ho.lt k hk).1; omega)
theorem parse_no {w W u : World} {B : Nat} {lp : Option Addr} {lc : Nat} {L : List (List UInt8)} {a1 : Option Addr} {c1 : Nat} {vs : List Int} {a2 : Option Addr} {c2 : Nat} {ps : List (Int × Int)} {S : List UInt8} (h : St w W u B lp lc L a1 c1 vs a2 c2 ps) (hq : AllQ S (fun _ _ _ _ => False)) :
    ParseRes w (.returned (.tuple #[.agg #[.slice none 0 0, .slice none 0 0], .bool false])) ((u.setCell ⟨w.heap.size, 0, none⟩ (.slice none 0 0)).setCell ⟨w.heap.size, 1, none⟩ (.slice none 0 0)) S :=
  .inr ⟨rfl, hq, below_put2 h.below (Nat.le_refl _) _ _⟩
theorem int_cell (w : World) (z : Int) (e : TypeId) : ∀ j u, ([Iv z])[j]? = some u → (w.alloc (.cells #[.int .i64 z] e)).cell? ((⟨w.heap.size, 0, none⟩ : Addr).add j) = some u := by
  intro j u hj
  have hadd : (⟨w.heap.size, 0, none⟩ : Addr).add j = ⟨w.heap.size, j, none⟩ := by unfold Addr.add; split <;> simp_all
  rw [hadd, World.cell?_alloc_mark w #[.int .i64 z] e (0, 0) j, ← hj]
  simp [Iv]

theorem St.row1 {w W u w2 : World} {B : Nat} {lp : Option Addr} {lc : Nat} {L : List (List UInt8)} {a1 : Option Addr} {c1 : Nat} {vs : List Int} {a2 : Option Addr} {c2 : Nat} {ps : List (Int × Int)} {o : Obj} (h : St w W u B lp lc L a1 c1 vs a2 c2 ps)
    (hg : (u.alloc o).grownBy w2 (Value.slice a1 vs.length c1).ownBlock ∨ (u.alloc o).grownBy w2 (Value.slice a2 ps.length c2).ownBlock) : w2.heap[w.heap.size + 1]? = some (.cells #[.slice a1 vs.length c1, .slice a2 ps.length c2] 27 (0, 0)) := by
  have h1 := h.lo
  have h2 := h.hi
  have hbB : Below B u w2 := by
    rcases hg with hg | hg
    · exact ((Below.refl B u).alloc h.size o).grown hg (by simp; have := h.size; omega) (fun k hk => (h.o1.lt k hk).1)
    · exact ((Below.refl B u).alloc h.size o).grown hg (by simp; have := h.size; omega) (fun k hk => (h.o2.lt k hk).1)
  exact (hbB.block _ (by omega)).trans h.r1
theorem isNum_unique {l : List UInt8} {x z : Int} (hx : isNum l x) (hz : isNum l z) : x = z := by
  have far : ∀ {a b : Int}, isNum l a → isNum l b → 0 ≤ a → b < 0 → False := fun ha hb h0 h1 => by
    obtain ⟨t, ht, _⟩ := isNum_neg hb h1
    have := (isDec_val (isNum_dec ha h0)).2 45 (by rw [ht]; exact List.mem_cons_self)
    revert this; decide
  by_cases h1 : 0 ≤ x
  · by_cases h2 : 0 ≤ z
    · have := isDec_unique (isNum_dec hx h1) (isNum_dec hz h2); omega
    · exact (far hx hz h1 (by omega)).elim
  · by_cases h2 : 0 ≤ z
    · exact (far hz hx h2 (by omega)).elim
    · obtain ⟨t, ht, hd⟩ := isNum_neg hx (by omega)
      obtain ⟨t', ht', hd'⟩ := isNum_neg hz (by omega)
      rw [ht] at ht'
      have e := (List.cons.inj ht').2
      subst e
      have := isDec_unique hd hd'; omega
theorem l06Signed_tell (l : List UInt8) : ∃ (z : Int) (ok : Bool), -1000000000 ≤ z ∧ z ≤ 1000000000 ∧ (∀ x, isNum l x → ok = true ∧ z = x) ∧ ∀ w, Calls Tryd.prog 34 #[.string ⟨l.toArray⟩] w fun r w' => r = .returned (.tuple #[.int .i64 z, .bool ok]) ∧ Below w.heap.size w w' := by
  have e : (⟨l.toArray⟩ : ByteArray).data.toList = l := by simp
  by_cases h : ∃ z, isNum l z
  · obtain ⟨z, hz⟩ := h
    exact ⟨z, true, hz.1, hz.2.1, fun x hx => ⟨rfl, isNum_unique hz hx⟩, l06Signed_yes _ z (by rw [e]; exact hz)⟩
  · exact ⟨0, false, by omega, by omega, fun x hx => absurd ⟨x, hx⟩ h, l06Signed_no _ (fun z hz => h ⟨z, by rw [e] at hz; exact hz⟩)⟩

def letters : ByteArray := ⟨#[77, 76, 81, 67, 90]⟩
theorem letter_at (q : Nat) (hq : q < 5) : (letters.extract q (q + 1)).toList = [wordB ((q : Int) + 1)] := by
  rw [ByteArray.toList_eq]
  obtain rfl | rfl | rfl | rfl | rfl : q = 0 ∨ q = 1 ∨ q = 2 ∨ q = 3 ∨ q = 4 := by omega
  all_goals rfl
theorem verb_of {wd : List UInt8} (q : Nat) (hq : q < 5) : wd = [wordB ((q : Int) + 1)] ↔ verbOf wd = q + 1 := by
  constructor
  · intro h
    have := verbOf_word (z := (q : Int) + 1) ⟨by omega, by omega⟩
    rw [h]; omega
  · intro h
    unfold verbOf at h
    split at h
    · rename_i e; obtain rfl : q = 0 := by omega
      exact e
    split at h
    · rename_i e; obtain rfl : q = 1 := by omega
      exact e
    split at h
    · rename_i e; obtain rfl : q = 2 := by omega
      exact e
    split at h
    · rename_i e; obtain rfl : q = 3 := by omega
      exact e
    split at h
    · rename_i e; obtain rfl : q = 4 := by omega
      exact e
    · omega
theorem verb_yes {wd : List UInt8} (q : Nat) (hq : q < 5) (h : (wd == (letters.extract q (q + 1)).toList) = true) : q + 1 = if verbOf wd ≤ q + 1 then verbOf wd else 0 := by
  have e := beq_iff_eq.1 h
  rw [letter_at q hq] at e
  have := (verb_of q hq).1 e
  rw [this, if_pos (Nat.le_refl _)]
theorem verb_no {wd : List UInt8} (q : Nat) (hq : q < 5) (h : (wd == (letters.extract q (q + 1)).toList) = false) {t : Nat} (ht : t = if verbOf wd ≤ q then verbOf wd else 0) : t = if verbOf wd ≤ q + 1 then verbOf wd else 0 := by
  have e := beq_eq_false_iff_ne.1 h
  rw [letter_at q hq] at e
  have hn : verbOf wd ≠ q + 1 := fun h1 => e ((verb_of q hq).2 h1)
  rw [ht]
  by_cases h1 : verbOf wd ≤ q
  · rw [if_pos h1, if_pos (by omega)]
  · rw [if_neg h1, if_neg (by omega)]

set_option maxHeartbeats 16000000 in
set_option maxRecDepth 100000 in
theorem specParsePath_any (s : ByteArray) (hs : s.size ≤ 1048576) (w : World) :
    Calls Tryd.prog 13 #[.string s] w fun r w' => ParseRes w r w' s.data.toList := by
  obtain ⟨i1, hi1, hz1, hs1, hb1⟩ := info_parts Tryd.info3
  obtain ⟨i2, hi2, hz2, hs2, hb2⟩ := info_parts infoPoint
  by_cases he : s = ⟨#[]⟩
  · subst he
    go_enter Tryd.func13, Tryd.ntmps13
    go_wp2_with fail
    refine bodyPost_ret (v := .tuple #[.agg #[.slice none 0 0, .slice none 0 0], .bool true]) (by simp [results, Tryd.results13, go_sem]) rfl ?_
    refine .inl ⟨_, _, [], [], rfl, ⟨World.ownsRow_nil _ _ _ _, World.ownsRow_nil _ _ _ _, .inl rfl⟩, right_nil, rfl, ?_, ?_⟩
    · intro vf n pf m hR ht
      obtain rfl := textN_nil ht
      have hm : m = 0 := by have := hR.sum; rw [← this]; rfl
      exact ⟨rfl, hm, fun j hj => absurd hj (by omega), fun j hj => absurd hj (by omega)⟩
    · exact al2_below _ _ _
  have hne : s.data.toList ≠ [] := fun h => he (str_of h)
  have he' : s.toList.isEmpty = false := by rw [ByteArray.toList_eq]; cases h : s.data.toList with
    | nil => exact absurd h hne
    | cons => rfl
  have EW := hide (l06Words_any s hs)
  have hLl : (splitA [] s.data.toList).length ≤ 1048577 := by
    have := splitA_len s.data.toList []
    have h2 : s.data.toList.length = s.size := by rw [Array.length_toList]; rfl
    omega
  obtain ⟨S, hS⟩ : ∃ S, S = s.data.toList := ⟨_, rfl⟩
  obtain ⟨L, hL⟩ : ∃ L, L = splitA [] S := ⟨_, rfl⟩
  rw [← hS, ← hL] at EW hLl
  rw [← hS] at hne ⊢
  replace hS := hide hS
  replace hne := hide hne
  replace hL := hide hL
  go_enter Tryd.func13, Tryd.ntmps13
  go_wp2_with fail
  obtain ⟨W, hW⟩ : ∃ W, W = (w.alloc (.cells #[.slice none 0 0, .slice none 0 0] 27)).alloc (.cells #[.slice none 0 0, .slice none 0 0] 27) := ⟨_, rfl⟩
  have HB := hide (show Below w.heap.size w W by rw [hW]; exact al2_below _ _ _)
  have R0 := hide (show W.heap[w.heap.size]? = some (.cells #[.slice none 0 0, .slice none 0 0] 27 (0, 0)) by rw [hW]; exact al2_0 _ _ _)
  have R1 := hide (show W.heap[w.heap.size + 1]? = some (.cells #[.slice none 0 0, .slice none 0 0] 27 (0, 0)) by rw [hW]; exact al2_1 _ _ _)
  rw [← hW]
  clear hW he he'
  go_fit (unhide EW _)
  rintro r w1 ⟨lp, lc, rfl, hlo, hb⟩
  replace HB := hide (below_two (unhide HB) hb)
  have bW := hide (heap_lt (unhide R1))
  replace R0 := hide (row_next hb (unhide R0))
  replace R1 := hide (row_next hb (unhide R1))
  have bW0 := bW
  have bW1 := hide hb.size
  replace hlo := hide hlo
  clear hb EW bW
  go_wp2_with fail
  have ST := hide (show St w W w1 w1.heap.size lp lc L none 0 [] none 0 [] from ⟨unhide R0, unhide R1, unhide hlo, World.ownsRow_nil _ _ _ _, World.ownsRow_nil _ _ _ _, unhide HB, Nat.le_refl _, unhide bW0, unhide bW1, fun k hk => ((unhide hlo).lt k hk).2⟩)
  clear R0 R1 hlo HB bW0 bW1
  generalize w1.heap.size = B at ST
  go_loopw [6] (fun i u => ∃ (k : Nat) (vs : List Int) (ps : List (Int × Int)) (a1 a2 : Option Addr) (c1 c2 : Nat), k ≤ L.length ∧ i = .int .i64 k ∧ vs.length ≤ 25 ∧ ps.length ≤ 3 * vs.length ∧ Hid (AllQ S (fun vf n pf m => Sync vf n pf k vs ps)) ∧ St w W u B lp lc L a1 c1 vs a2 c2 ps) (fun i _ => L.length - (intOf i).toNat)
  case atStart => exact ⟨0, [], [], none, none, 0, 0, Nat.zero_le _, rfl, by simp, by simp, fun vf n pf m _ _ => Sync.start vf n pf, unhide ST⟩
  case round =>
    clear ST
    obtain ⟨k, vs, ps, a1, a2, c1, c2, hk, rfl, hvl, hpl, HS, hst⟩ := hrel
    obtain ⟨r0, r1⟩ := row2 hst.r1
    replace hst := hide hst
    by_cases hgo : k < L.length ∧ vs.length ≤ 24
    · obtain ⟨hkl, hv24⟩ := hgo
      have hkl' : (k : Int) < (L.length : Int) := by omega
      have hv24' : (vs.length : Int) ≤ 24 := by omega
      obtain ⟨g, cap, e, _, _⟩ := own_at (unhide hst).list (by omega)
      cases e
      obtain ⟨wd, hwd⟩ : ∃ wd, L[k]? = some wd := ⟨_, List.getElem?_eq_getElem hkl⟩
      have cw := word_cell (unhide hst).list hkl hwd
      have hvo := verbOf_le wd
      go_wp2_with fail
      obtain ⟨X, hX⟩ : ∃ X, X = wr := ⟨_, rfl⟩
      subst hX
      go_loopw [7, 8] (fun vb v u => ∃ q t : Nat, q ≤ 5 ∧ v = .int .i64 q ∧ vb = .int .i64 t ∧ Hid (t = if verbOf wd ≤ q then verbOf wd else 0) ∧ Below X.heap.size X u) (fun _ v _ => 5 - (intOf v).toNat)
      case atStart => exact ⟨0, 0, Nat.zero_le _, rfl, rfl, by (show 0 = _; split <;> omega), Below.refl _ _⟩
      case round =>
        obtain ⟨q, t, hq, rfl, rfl, ht, hbx⟩ := hrel
        have cw' := kc hbx cw
        by_cases hq5 : q < 5
        · obtain rfl | rfl | rfl | rfl | rfl : q = 0 ∨ q = 1 ∨ q = 2 ∨ q = 3 ∨ q = 4 := by omega
          · go_wp2_with fail
            obtain ⟨I, F, hI, F1, F2⟩ := kept_worlds wr
            have cF : ∀ i, (F i).cell? ⟨g, k, none⟩ = some (.string ⟨wd.toArray⟩) := fun i => kc (F2 i) cw'
            clear cw'
            replace F1 := hide F1
            replace F2 := hide F2
            refine wp_region_quiet_in (unhide F1) (by kernel_rfl) (by kernel_rfl) ?_
            repeat (go_big_quiet_step (fail))
            refine wpQuiet_nil ?_
            rintro _ ⟨i, rfl⟩
            have hF := below_two hbx (unhide F2 i)
            clear F1 F2 cF hbx
            go_wp2_with fail
            · rename_i hc
              go_roundw
              case rel => exact ⟨1, 1, by omega, rfl, rfl, verb_yes 0 (by omega) hc, hF⟩
              case measure => simp [intOf]
            · rename_i hc
              go_roundw
              case rel => exact ⟨1, t, by omega, rfl, rfl, verb_no 0 (by omega) hc ht, hF⟩
              case measure => simp [intOf]
          · go_wp2_with fail
            obtain ⟨I, F, hI, F1, F2⟩ := kept_worlds wr
            have cF : ∀ i, (F i).cell? ⟨g, k, none⟩ = some (.string ⟨wd.toArray⟩) := fun i => kc (F2 i) cw'
            clear cw'
            replace F1 := hide F1
            replace F2 := hide F2
            refine wp_region_quiet_in (unhide F1) (by kernel_rfl) (by kernel_rfl) ?_
            repeat (go_big_quiet_step (fail))
            refine wpQuiet_nil ?_
            rintro _ ⟨i, rfl⟩
            have hF := below_two hbx (unhide F2 i)
            clear F1 F2 cF hbx
            go_wp2_with fail
            · rename_i hc
              go_roundw
              case rel => exact ⟨2, 2, by omega, rfl, rfl, verb_yes 1 (by omega) hc, hF⟩
              case measure => simp [intOf]
            · rename_i hc
              go_roundw
              case rel => exact ⟨2, t, by omega, rfl, rfl, verb_no 1 (by omega) hc ht, hF⟩
              case measure => simp [intOf]
          · go_wp2_with fail
            obtain ⟨I, F, hI, F1, F2⟩ := kept_worlds wr
            have cF : ∀ i, (F i).cell? ⟨g, k, none⟩ = some (.string ⟨wd.toArray⟩) := fun i => kc (F2 i) cw'
            clear cw'
            replace F1 := hide F1
            replace F2 := hide F2
            refine wp_region_quiet_in (unhide F1) (by kernel_rfl) (by kernel_rfl) ?_
            repeat (go_big_quiet_step (fail))
            refine wpQuiet_nil ?_
            rintro _ ⟨i, rfl⟩
            have hF := below_two hbx (unhide F2 i)
            clear F1 F2 cF hbx
            go_wp2_with fail
            · rename_i hc
              go_roundw
              case rel => exact ⟨3, 3, by omega, rfl, rfl, verb_yes 2 (by omega) hc, hF⟩
              case measure => simp [intOf]
            · rename_i hc
              go_roundw
              case rel => exact ⟨3, t, by omega, rfl, rfl, verb_no 2 (by omega) hc ht, hF⟩
              case measure => simp [intOf]
          · go_wp2_with fail
            obtain ⟨I, F, hI, F1, F2⟩ := kept_worlds wr
            have cF : ∀ i, (F i).cell? ⟨g, k, none⟩ = some (.string ⟨wd.toArray⟩) := fun i => kc (F2 i) cw'
            clear cw'
            replace F1 := hide F1
            replace F2 := hide F2
            refine wp_region_quiet_in (unhide F1) (by kernel_rfl) (by kernel_rfl) ?_
            repeat (go_big_quiet_step (fail))
            refine wpQuiet_nil ?_
            rintro _ ⟨i, rfl⟩
            have hF := below_two hbx (unhide F2 i)
            clear F1 F2 cF hbx
            go_wp2_with fail
            · rename_i hc
              go_roundw
              case rel => exact ⟨4, 4, by omega, rfl, rfl, verb_yes 3 (by omega) hc, hF⟩
              case measure => simp [intOf]
            · rename_i hc
              go_roundw
              case rel => exact ⟨4, t, by omega, rfl, rfl, verb_no 3 (by omega) hc ht, hF⟩
              case measure => simp [intOf]
          · go_wp2_with fail
            obtain ⟨I, F, hI, F1, F2⟩ := kept_worlds wr
            have cF : ∀ i, (F i).cell? ⟨g, k, none⟩ = some (.string ⟨wd.toArray⟩) := fun i => kc (F2 i) cw'
            clear cw'
            replace F1 := hide F1
            replace F2 := hide F2
            refine wp_region_quiet_in (unhide F1) (by kernel_rfl) (by kernel_rfl) ?_
            repeat (go_big_quiet_step (fail))
            refine wpQuiet_nil ?_
            rintro _ ⟨i, rfl⟩
            have hF := below_two hbx (unhide F2 i)
            clear F1 F2 cF hbx
            go_wp2_with fail
            · rename_i hc
              go_roundw
              case rel => exact ⟨5, 5, by omega, rfl, rfl, verb_yes 4 (by omega) hc, hF⟩
              case measure => simp [intOf]
            · rename_i hc
              go_roundw
              case rel => exact ⟨5, t, by omega, rfl, rfl, verb_no 4 (by omega) hc ht, hF⟩
              case measure => simp [intOf]
        · have hqe : q = 5 := by omega
          subst hqe
          obtain rfl : t = verbOf wd := by have := unhide ht; rw [if_pos hvo] at this; exact this
          clear cw' cw ht hq hq5
          replace hst := hide ((unhide hst).next hbx)
          clear hbx
          have HM := hide (show AllQ S (fun vf n pf m => Mid vf n pf k 0 vs ps (verbOf wd)) from fun vf n pf m hR ht => (unhide HS vf n pf m hR ht).mid hR ht (unhide hne) (by rw [← unhide hL]; exact hkl) (by rw [← unhide hL]; exact hwd))
          have HW := hide (show AllQ S (fun vf n pf m => isVerb (verbOf wd : Int) ∧ k + 2 * needK (verbOf wd : Int) < L.length) from fun vf n pf m hR ht => by
            have h1 := (unhide HS vf n pf m hR ht).word hR ht (unhide hne) (by rw [← unhide hL]; exact hkl)
            have h2 := (unhide HM vf n pf m hR ht).verb
            rw [h2, ← unhide hL] at h1
            exact ⟨h1.2.2.1, h1.2.2.2⟩)
          generalize verbOf wd = v at HM HW hvo
          clear hwd HS
          have E := hide (specNeedOf_any (v : Int))
          by_cases hv : isVerb (v : Int)
          · rw [needI_of hv] at E
            have hkk := needK_le (v : Int)
            obtain ⟨nk, hnk⟩ : ∃ nk, nk = needK (v : Int) := ⟨_, rfl⟩
            rw [← hnk] at E hkk
            rw [← hnk] at HW
            have hneg : ¬ ((nk : Int) < 0) := by omega
            have hw1 : IntKind.i64.wrap (2 * (nk : Int)) = 2 * (nk : Int) := IntWalk.i64_in _ (by omega)
            have hw2 : IntKind.i64.wrap ((k : Int) + 2 * (nk : Int)) = (k : Int) + 2 * (nk : Int) := IntWalk.i64_in _ (by omega)
            replace hnk := hide hnk
            go_wp2_with fail
            go_fit (unhide E _)
            rintro r w2 ⟨rfl, hb⟩
            replace hst := hide ((unhide hst).next hb)
            clear hb E
            by_cases hle : k + 2 * nk < L.length
            · have hle' : ¬ ((L.length : Int) ≤ (k : Int) + 2 * (nk : Int)) := by omega
              clear HW
              obtain ⟨r0, r1⟩ := row2 (unhide hst).r1
              have hvs := hide (Nat.le_trans (unhide hst).size (Nat.le_succ _))
              go_wp2_with (at_builtin; go_must (refine wpList_append_own (w2.alloc (.cells #[.int .i64 (v : Int)] 3)) rfl _ _ 24 rfl B 3 i1 (.int .i64 0) 1 8 Tryd.underlying24 hi1 hz1 hs1 hb1 rfl (by decide) (.slice a1 vs.length c1) vs.length (vs.map Iv) (by rfl) ((unhide hst).o1.alloc _) ⟨w2.heap.size, 0, none⟩ 1 1 [Iv (v : Int)] (by rfl) (by rfl) (int_cell w2 (v : Int) 3) (by intro u hu; simp at hu; subst hu; rfl) (by unfold maxLen; omega) (by omega) (by rw [al1_size]; exact unhide hvs) ?_); intro v' w3 ho hg _; obtain ⟨a1', c1', rfl⟩ := own_form ho; have P1 := hide ((unhide hst).row1 (.inl hg)); have P2 := hide ((unhide hst).push1 (z := (v : Int)) hg ho); clear ho hg; obtain ⟨e0, e1⟩ := row2 (unhide P1); obtain ⟨f0, f1⟩ := free2 (unhide P1))
              clear r0 r1 e0 e1 f0 f1 P1 hst hvs
              obtain ⟨Y, hY⟩ : ∃ Y, Y = w3.setCell ⟨w.heap.size + 1, 0, none⟩ (.slice a1' (vs.length + 1) c1') := ⟨_, rfl⟩
              rw [← hY] at P2 ⊢
              clear hY
              have hvl' : (vs ++ [(v : Int)]).length ≤ 25 := by simp; omega
              go_loopw [10] (fun i u => ∃ (j : Nat) (qs : List (Int × Int)) (a2' : Option Addr) (c2' : Nat), j ≤ nk ∧ i = .int .i64 j ∧ qs.length = ps.length + j ∧ Hid (AllQ S (fun vf n pf m => Mid vf n pf k j vs qs v)) ∧ St w W u B (some ⟨g, 0, none⟩) lc L a1' c1' (vs ++ [(v : Int)]) a2' c2' qs) (fun i _ => nk - (intOf i).toNat)
              case atStart => exact ⟨0, ps, a2, c2, Nat.zero_le _, rfl, rfl, unhide HM, unhide P2⟩
              case round =>
                clear P2 HM
                obtain ⟨j, qs, a2', c2', hj, rfl, hql, HM, hst⟩ := hrel
                replace hst := hide hst
                have hq80 : qs.length ≤ 80 := by omega
                replace hql := hide hql
                by_cases hjn : j < nk
                · have hjn' : (j : Int) < (nk : Int) := by omega
                  obtain ⟨px, hpx⟩ : ∃ px : Nat, px = k + 1 + 2 * j := ⟨_, rfl⟩
                  obtain ⟨py, hpy⟩ : ∃ py : Nat, py = k + 2 + 2 * j := ⟨_, rfl⟩
                  have lx : px < L.length := by omega
                  have ly : py < L.length := by omega
                  obtain ⟨wx, hwx⟩ : ∃ wx, L[px]? = some wx := ⟨_, List.getElem?_eq_getElem lx⟩
                  obtain ⟨wy, hwy⟩ : ∃ wy, L[py]? = some wy := ⟨_, List.getElem?_eq_getElem ly⟩
                  have cx := word_cell (unhide hst).list lx hwx
                  have cy := word_cell (unhide hst).list ly hwy
                  obtain ⟨zx, okx, bx1, bx2, tx, Ex⟩ := l06Signed_tell wx
                  obtain ⟨zy, oky, by1, by2, ty, Ey⟩ := l06Signed_tell wy
                  have HZ := hide (show AllQ S (fun vf n pf m => okx = true ∧ oky = true ∧ pf qs.length = (zx, zy)) from fun vf n pf m hR ht => by
                    obtain ⟨x, y, h1, h2, h3, h4, h5⟩ := (unhide HM vf n pf m hR ht).words hR ht (unhide hne) (by rw [← unhide hnk]; exact hjn)
                    rw [← unhide hL, ← hpx, hwx] at h1
                    rw [← unhide hL, ← hpy, hwy] at h2
                    obtain ⟨k1, k2⟩ := tx x (by rw [Option.some.inj h1]; exact h3)
                    obtain ⟨k3, k4⟩ := ty y (by rw [Option.some.inj h2]; exact h4)
                    exact ⟨k1, k3, by rw [h5, k2, k4]⟩)
                  have u1 : IntKind.i64.wrap ((k : Int) + 1) = (k : Int) + 1 := IntWalk.i64_in _ (by omega)
                  have u2 : IntKind.i64.wrap ((k : Int) + 2) = (k : Int) + 2 := IntWalk.i64_in _ (by omega)
                  have u3' : IntKind.i64.wrap (2 * (j : Int)) = 2 * (j : Int) := IntWalk.i64_in _ (by omega)
                  have u4 : IntKind.i64.wrap ((k : Int) + 1 + 2 * (j : Int)) = (px : Int) := by rw [IntWalk.i64_in _ (by omega)]; omega
                  have u5 : IntKind.i64.wrap ((k : Int) + 2 + 2 * (j : Int)) = (py : Int) := by rw [IntWalk.i64_in _ (by omega)]; omega
                  replace hpx := hide hpx
                  replace hpy := hide hpy
                  replace Ex := hide Ex
                  replace Ey := hide Ey
                  clear hwx hwy tx ty
                  go_wp2_with fail
                  go_fit (unhide Ex _)
                  rintro r w4 ⟨rfl, hb⟩
                  replace hst := hide ((unhide hst).next hb)
                  replace cy := kc hb cy
                  clear hb Ex cx
                  go_wp2_with fail
                  go_fit (unhide Ey _)
                  rintro r w5 ⟨rfl, hb⟩
                  replace hst := hide ((unhide hst).next hb)
                  clear hb Ey cy
                  by_cases hok : okx = true ∧ oky = true
                  · obtain ⟨rfl, rfl⟩ := hok
                    have HM' := hide (show AllQ S (fun vf n pf m => Mid vf n pf k (j + 1) vs (qs ++ [(zx, zy)]) v) from fun vf n pf m hR ht => (unhide HM vf n pf m hR ht).more (unhide HZ vf n pf m hR ht).2.2)
                    clear HZ HM
                    obtain ⟨r0, r1⟩ := row2 (unhide hst).r1
                    have hvs := hide (Nat.le_trans (unhide hst).size (Nat.le_succ _))
                    go_wp2_with (at_builtin; go_must (refine wpList_append_own (w5.alloc (.cells #[.int .i64 zx, .int .i64 zy] 44)) rfl _ _ 25 rfl B 44 i2 (.agg #[.int .i64 0, .int .i64 0]) 2 16 Tryd.underlying25 hi2 hz2 hs2 hb2 rfl (by decide) (.slice a2' qs.length c2') qs.length (ptsV qs) (by rfl) ((unhide hst).o2.alloc _) ⟨w5.heap.size, 0, none⟩ 1 1 (ptV (zx, zy)) (by rfl) (by rfl) (pt_cells w5 zx zy _) (pt_one zx zy) (by unfold maxLen; omega) (by omega) (by rw [al1_size]; exact unhide hvs) ?_); intro v' w6 ho hg _; obtain ⟨b2, d2, rfl⟩ := own_form ho; have P1 := hide ((unhide hst).row1 (.inr hg)); have P2 := hide ((unhide hst).push2 (z := (zx, zy)) hg ho); clear ho hg; obtain ⟨e0, e1⟩ := row2 (unhide P1); obtain ⟨f0, f1⟩ := free2 (unhide P1))
                    go_roundw
                    case rel => exact ⟨j + 1, qs ++ [(zx, zy)], b2, d2, by omega, by go_num, by have := unhide hql; simp; omega, unhide HM', unhide P2⟩
                    case measure => simp [intOf]; omega
                  · have hN : AllQ S (fun _ _ _ _ => False) := fun vf n pf m hR ht => hok ⟨(unhide HZ vf n pf m hR ht).1, (unhide HZ vf n pf m hR ht).2.1⟩
                    obtain ⟨f0, f1⟩ := free2 (unhide hst).r0
                    obtain ⟨d0, d1⟩ := row2 (unhide hst).r0
                    replace hN := hide hN
                    cases okx with
                    | false =>
                      go_wp2_with fail
                      refine bodyPost_ret (v := .tuple #[.agg #[.slice none 0 0, .slice none 0 0], .bool false]) (by simp [results, Tryd.results13, go_sem, d0, d1]) rfl ?_
                      exact parse_no (unhide hst) (unhide hN)
                    | true =>
                      obtain rfl : oky = false := by cases oky with
                        | false => rfl
                        | true => exact absurd ⟨rfl, rfl⟩ hok
                      go_wp2_with fail
                      refine bodyPost_ret (v := .tuple #[.agg #[.slice none 0 0, .slice none 0 0], .bool false]) (by simp [results, Tryd.results13, go_sem, d0, d1]) rfl ?_
                      exact parse_no (unhide hst) (unhide hN)
                · have hje : j = nk := by omega
                  have hjn' : ¬ (j : Int) < (nk : Int) := by omega
                  have HS' := hide (show AllQ S (fun vf n pf m => Sync vf n pf (k + 1 + 2 * nk) (vs ++ [(v : Int)]) qs) from fun vf n pf m hR ht => by
                    have := (unhide HM vf n pf m hR ht).done (by rw [hje]; exact unhide hnk)
                    rw [← unhide hnk] at this; exact this)
                  have u1 : IntKind.i64.wrap ((k : Int) + 1) = (k : Int) + 1 := IntWalk.i64_in _ (by omega)
                  have u4 : IntKind.i64.wrap ((k : Int) + 1 + 2 * (nk : Int)) = ((k + 1 + 2 * nk : Nat) : Int) := by rw [IntWalk.i64_in _ (by omega)]; omega
                  clear HM
                  go_wp2_with fail
                  go_roundw
                  case rel => exact ⟨k + 1 + 2 * nk, vs ++ [(v : Int)], qs, a1', a2', c1', c2', by omega, by go_num, hvl', by have := unhide hql; simp; omega, unhide HS', unhide hst⟩
                  case measure => simp [intOf]; omega
            · have hle' : ((L.length : Int) ≤ (k : Int) + 2 * (nk : Int)) := by omega
              obtain ⟨f0, f1⟩ := free2 (unhide hst).r0
              obtain ⟨d0, d1⟩ := row2 (unhide hst).r0
              go_wp2_with fail
              refine bodyPost_ret (v := .tuple #[.agg #[.slice none 0 0, .slice none 0 0], .bool false]) (by simp [results, Tryd.results13, go_sem, d0, d1]) rfl ?_
              exact parse_no (unhide hst) (fun vf n pf m hR ht => hle (unhide HW vf n pf m hR ht).2)
          · rw [show needI (v : Int) = -1 from if_neg hv] at E
            go_wp2_with fail
            go_fit (unhide E _)
            rintro r w2 ⟨rfl, hb⟩
            replace hst := hide ((unhide hst).next hb)
            clear hb E
            obtain ⟨f0, f1⟩ := free2 (unhide hst).r0
            obtain ⟨d0, d1⟩ := row2 (unhide hst).r0
            go_wp2_with fail
            refine bodyPost_ret (v := .tuple #[.agg #[.slice none 0 0, .slice none 0 0], .bool false]) (by simp [results, Tryd.results13, go_sem, d0, d1]) rfl ?_
            exact parse_no (unhide hst) (fun vf n pf m hR ht => hv (unhide HW vf n pf m hR ht).1)
    · have hend : AllQ S (fun vf n pf m => n = vs.length ∧ m = ps.length ∧ (∀ j, j < n → vf j = listI vs j) ∧ ∀ j, j < m → pf j = listP ps j) := fun vf n pf m hR ht => (unhide HS vf n pf m hR ht).end_ hR ht (unhide hne) (by rw [← unhide hL]; exact hgo)
      replace hend := hide hend
      have hgo' : ¬ ((k : Int) < (L.length : Int) ∧ (vs.length : Int) ≤ 24) := fun h => hgo ⟨by omega, by omega⟩
      obtain ⟨x, hx⟩ : ∃ x : Bool, (x = true ↔ Right (listI vs) vs.length (listP ps) ps.length) := by
        by_cases h : Right (listI vs) vs.length (listP ps) ps.length
        · exact ⟨true, by simp [h]⟩
        · exact ⟨false, by simp [h]⟩
      have ET := hide (fun u hv hp => specPathText_any (listI vs) (listP ps) a1 a2 vs.length c1 ps.length c2 (by omega) (by omega) u x hx hv hp)
      have hsl : s.toList = S := by rw [ByteArray.toList_eq]; exact (unhide hS).symm
      have V := hide (own_ix (unhide hst).o1 (ix_list vs))
      have P := hide (own_pxa (unhide hst).o2 (px_list ps))
      clear HS
      have hcase : (¬ (k : Int) < (L.length : Int)) ∨ ((k : Int) < (L.length : Int) ∧ ¬ (vs.length : Int) ≤ 24) := by omega
      clear hgo hgo'
      generalize hT : pathT x (listI vs) (listP ps) vs.length = T at ET
      replace hT := hide hT
      replace hsl := hide hsl
      replace hx := hide hx
      rcases hcase with hc | ⟨hc, hc2⟩
      all_goals
        go_wp2_with fail
        go_fit (unhide ET _ (unhide V) (unhide P))
        rintro r w2 ⟨rfl, hb⟩
        replace hst := hide ((unhide hst).next hb)
        clear hb ET V P r0 r1
        obtain ⟨r0, r1⟩ := row2 (unhide hst).r1
        obtain ⟨f0, f1⟩ := free2 (unhide hst).r0
        obtain ⟨d0, d1⟩ := row2 (unhide hst).r0
        by_cases hfin : x = true ∧ T = S
        · obtain ⟨rfl, hTS⟩ := hfin
          have hn1 : (T == s.toList) = true := by rw [unhide hsl, hTS]; simp
          have hR := (unhide hx).1 rfl
          have hT' : textN (listI vs) (listP ps) vs.length = S := by rw [← hTS, ← unhide hT]; rfl
          replace hTS := hide hTS
          replace hR := hide hR
          replace hT' := hide hT'
          go_wp2_with fail
          refine bodyPost_ret (v := .tuple #[.agg #[.slice a1 vs.length c1, .slice a2 ps.length c2], .bool true]) (by simp [results, Tryd.results13, go_sem, d0, d1]) rfl ?_
          have hB1 := (unhide hst).lo
          have hB2 := (unhide hst).hi
          refine .inl ⟨_, _, vs, ps, rfl, ⟨own_low (own_setc_ne (own_setc_ne (unhide hst).o1 ?_) ?_) (by omega), own_low (own_setc_ne (own_setc_ne (unhide hst).o2 ?_) ?_) (by omega), own_types (unhide hst).o1 (unhide hst).o2 (by decide)⟩, unhide hR, unhide hT', unhide hend, below_put2 (unhide hst).below (Nat.le_refl _) _ _⟩
          · intro q hq e; have := ((unhide hst).o1.lt q hq).1; omega
          · intro q hq e; have := ((unhide hst).o1.lt q hq).1; omega
          · intro q hq e; have := ((unhide hst).o2.lt q hq).1; omega
          · intro q hq e; have := ((unhide hst).o2.lt q hq).1; omega
        · have hN : AllQ S (fun _ _ _ _ => False) := fun vf n pf m hR ht => by
            obtain ⟨e1, e2, e3, e4⟩ := unhide hend vf n pf m hR ht
            have hR2 : Right (listI vs) vs.length (listP ps) ps.length := by rw [← e1, ← e2]; exact hR.same e3 e4
            have hx1 := (unhide hx).2 hR2
            refine hfin ⟨hx1, ?_⟩
            rw [← unhide hT, hx1, ← ht]
            change textN (listI vs) (listP ps) vs.length = _
            rw [← e1]
            exact (textN_same e4 e3 (by rw [hR.sum]; exact Nat.le_refl _)).symm
          replace hN := hide hN
          cases x with
          | false =>
            go_wp2_with fail
            refine bodyPost_ret (v := .tuple #[.agg #[.slice none 0 0, .slice none 0 0], .bool false]) (by simp [results, Tryd.results13, go_sem, d0, d1]) rfl ?_
            exact parse_no (unhide hst) (unhide hN)
          | true =>
            have hn1 : (T == s.toList) = false := by rw [unhide hsl]; exact beq_eq_false_iff_ne.2 fun h => hfin ⟨rfl, h⟩
            go_wp2_with fail
            refine bodyPost_ret (v := .tuple #[.agg #[.slice none 0 0, .slice none 0 0], .bool false]) (by simp [results, Tryd.results13, go_sem, d0, d1]) rfl ?_
            exact parse_no (unhide hst) (unhide hN)
end Go.Proofs.YtkhacppaemilgaaDoor
