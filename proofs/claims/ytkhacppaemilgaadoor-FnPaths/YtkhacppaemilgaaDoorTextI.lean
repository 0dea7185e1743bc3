/-
  The program's PathText.
-/
import Derived.Test.YtkhacppaemilgaaDoorTextS
import Derived.Test.YtkhacppaemilgaaDoorPathI
import Derived.Test.YtkhacppaemilgaaDoorWordsS
import Derived.Test.YtkhacppaemilgaaDoorMoveK
import Derived.Test.YtkhacppaemilgaaDoorShelf2
namespace Go.Proofs.YtkhacppaemilgaaDoor
open Go.RowKit

theorem joinW_join : ∀ ws : List (List UInt8), joinW ws = Lib.join ws [32]
  | [] => rfl
  | [w] => (Lib.join_one w [32]).symm
  | w :: v :: l => by
    show w ++ 32 :: joinW (v :: l) = _
    rw [joinW_join (v :: l), Lib.join_cons, Lib.join_cons]
    simp [Lib.joinTail]

/-- A list of words that a call owns, joined. -/
theorem join_own (base : Nat) (p : Option Addr) (cap : Nat) (out : List (List UInt8)) (w : World) (ho : w.ownsRow base 9 1 (.slice p out.length cap) out.length (out.map Sv)) (h1 : out.length ≤ 1000) (h2 : (joinW out).length ≤ 100000) :
    Calls Tryd.prog 21 #[.slice p out.length cap, .string ⟨#[32]⟩] w fun r w' => r = .returned (.string ⟨(joinW out).toArray⟩) ∧ Below w.heap.size w w' := by
  by_cases h0 : out = []
  · subst h0
    refine (Tryd.strings_Join_none p cap ⟨#[32]⟩ w).mono ?_
    rintro e w' ⟨rfl, rfl⟩
    exact ⟨rfl, Below.refl _ _⟩
  · have hpos : 0 < out.length := List.length_pos_iff.2 h0
    rcases ho.2 with ⟨h, hz⟩ | ⟨g, c', cur, hv, hg, hr, hc1, hc2, hc3, hc4⟩
    · omega
    · cases hv
      have hl : (out.map fun l => (⟨l.toArray⟩ : ByteArray)).length = out.length := by simp
      have hm : (out.map fun l => (⟨l.toArray⟩ : ByteArray)).map (·.data.toList) = out := by rw [List.map_map]; exact (List.map_congr_left (fun l _ => by simp)).trans (List.map_id out)
      have hcells : ∀ (j : Nat) x, (out.map fun l => (⟨l.toArray⟩ : ByteArray))[j]? = some x → w.cell? ⟨g, 0 + j, none⟩ = some (.string x) := by
        intro j x hx
        have hj : j < out.length := by
          have := (List.getElem?_eq_some_iff.1 hx).1
          simpa using this
        have e : cur[j]? = some (.string x) := by
          have h3 : (cur.toList.take (out.length * 1))[j]? = (out.map Sv)[j]? := by rw [hc4]
          rw [List.getElem?_take_of_lt (by omega), Array.getElem?_toList] at h3
          rw [h3]
          rw [List.getElem?_map] at hx ⊢
          cases ho' : out[j]? with
          | none => rw [ho'] at hx; cases hx
          | some l => rw [ho'] at hx; cases hx; rfl
        have := row_at (j := 0 + j) hr (by rw [Nat.zero_add]; exact e)
        exact this
      have J := Tryd.strings_Join g 0 cap (out.map fun l => (⟨l.toArray⟩ : ByteArray)) ⟨#[32]⟩ w hcells (heap_lt hr) (by rw [hl]; omega) (by rw [hl]; exact hc1) (by rw [hm]; show (Lib.join out [32]).length ≤ _; rw [← joinW_join]; omega)
      rw [hm, hl] at J
      refine J.mono ?_
      rintro e w' ⟨rfl, hb⟩
      refine ⟨?_, hb⟩
      show Ending.returned (.string ⟨(Lib.join out [32]).toArray⟩) = _
      rw [← joinW_join]

def advA (a : Option Addr) (q c : Nat) : Option Addr := if c = q then a else a.map (·.add (q * 2))
theorem adv_pt {w : World} {a : Option Addr} {q c L : Nat} {f : Nat → Int × Int} (h : ∀ i, i < L → PtArg w a i (f i)) (hc : L ≤ c) {M : Nat} (hM : q + M = L) : ∀ i, i < M → PtArg w (advA a q c) i (f (q + i)) := by
  intro i hi
  obtain ⟨s, o, rfl, h1, h2⟩ := h (q + i) (by omega)
  have hne : ¬ c = q := by omega
  have e : o + q * 2 + i * 2 = o + (q + i) * 2 := by omega
  refine ⟨s, o + q * 2, ?_, ?_, ?_⟩
  · unfold advA
    rw [if_neg hne]
    by_cases hq : q = 0
    · subst hq; rfl
    · have : q * 2 ≠ 0 := by omega
      simp [Addr.add, this]
  · rw [e]; exact h1
  · rw [e]; exact h2

theorem run_headPts (a : Option Addr) (L c q : Nat) (hq : q ≤ c) (w : World) : (Instr.slice 25 (.slice a L c) none (some (.int .i64 (q : Int))) none).run Tryd.prog w = .ok (.slice a q c) w := by
  have ht : Tryd.prog.underlying 25 = some (.slice (Tryd.prog.elem 25)) := by kernel_rfl
  rw [run_slice_h w 25 a L c ht .i64 q (by omega) (by omega)]
  have hs : (sizeOf (Tryd.prog.elem 25)).run Tryd.prog w = .ok 2 w := by kernel_rfl
  rw [hs]
  cases a with
  | none => simp [sliced, Result.andThen]
  | some a => simp [sliced, Result.andThen, Addr.add]

theorem run_restPts (a : Option Addr) (L c q M : Nat) (hq : q + M = L) (w : World) : (Instr.slice 25 (.slice a L c) (some (.int .i64 (q : Int))) none none).run Tryd.prog w = .ok (.slice (advA a q c) M (c - q)) w := by
  have ht : Tryd.prog.underlying 25 = some (.slice (Tryd.prog.elem 25)) := by kernel_rfl
  rw [run_slice_l w 25 a L c ht .i64 q (by omega) (by omega)]
  have hs : (sizeOf (Tryd.prog.elem 25)).run Tryd.prog w = .ok 2 w := by kernel_rfl
  rw [hs]
  have : L - q = M := by omega
  simp [sliced, Result.andThen, advA, this]

theorem run_letter {z : Int} (hz : isVerb z) (w : World) : (Instr.slice 9 (.string ⟨#[77, 76, 81, 67, 90]⟩) (some (.int .i64 (z - 1))) (some (.int .i64 z)) none).run Tryd.prog w = .ok (.string ⟨[wordB z].toArray⟩) w := by
  rcases verb_cases hz with rfl | rfl | rfl | rfl | rfl <;> kernel_rfl

theorem row6_two {w : World} {base : Nat} {v : Value} {out : List (List UInt8)} {c e : List UInt8} (h : w.ownsRow base 9 1 v (out.length + 2) (out.map Sv ++ [Sv c, Sv e])) :
    w.ownsRow base 9 1 v (out ++ [c, e]).length ((out ++ [c, e]).map Sv) := by
  have e1 : (out ++ [c, e]).map Sv = out.map Sv ++ [Sv c, Sv e] := by rw [List.map_append]; rfl
  have e2 : (out ++ [c, e]).length = out.length + 2 := by simp
  rw [e1, e2]; exact h

theorem PathV.capP {w : World} {base n m c d : Nat} {a b : Option Addr} {vf : Nat → Int} {pf : Nat → Int × Int} (h : PathV w base (.slice a n c) (.slice b m d) n m vf pf) : m ≤ d := by
  obtain ⟨xs, ys, o, _, _⟩ := h
  rcases o.two.2 with ⟨e, hz⟩ | ⟨g, cap, cur, hv, _, _, hc, _⟩
  · omega
  · cases hv; exact hc

theorem two_cells (w : World) (a b : List UInt8) : ∀ j u, [Sv a, Sv b][j]? = some u → (w.alloc (.cells #[.string ⟨a.toArray⟩, .string ⟨b.toArray⟩] 9)).cell? ((⟨w.heap.size, 0, none⟩ : Addr).add j) = some u := by
  intro j u hj
  have hadd : (⟨w.heap.size, 0, none⟩ : Addr).add j = ⟨w.heap.size, j, none⟩ := by unfold Addr.add; split <;> simp_all
  rw [hadd, World.cell?_alloc_mark w #[.string ⟨a.toArray⟩, .string ⟨b.toArray⟩] 9 (0, 0) j, ← hj]
  simp [Sv]

set_option maxHeartbeats 8000000 in
set_option maxRecDepth 100000 in
theorem implPathText_any (vf : Nat → Int) (pf : Nat → Int × Int) (a b : Option Addr) (n c m d : Nat) (hn : n ≤ 1048576) (hm : m ≤ 1048576) (hd : m ≤ d) (w : World)
    (x : Bool) (hx : x = true ↔ Right vf n pf m) (V : ∀ i, i < n → IntAt w a i (vf i)) (P : ∀ i, i < m → PtArg w b i (pf i)) (htab : Lib.TabIs Tryd.prog w "internal/strconv.uint64pow10" .u64 Lib.pow10Tab) :
    Calls Tryd.prog 7 #[.agg #[.slice a n c, .slice b m d]] w fun r w' => r = .returned (.tuple #[.string ⟨(pathT x vf pf n).toArray⟩, .bool x]) ∧ Below w.heap.size w w' := by
  obtain ⟨i0, hi, hz0, hz1, hz2⟩ := info_parts infoStr
  have EO := hide (fun u V P => implPathOk_any vf pf a b n c m d hn hm u x hx V P)
  have ED := hide (fun (z : Int) (h : -8388608 ≤ z ∧ z ≤ 8388608) (u : World) (hu : Below w.heap.size w u) => implDecimal_any z (by omega) (by omega) u (tab_below pow10_at htab hu))
  replace V := hide V
  replace P := hide P
  clear htab
  go_enter Tryd.func7, Tryd.ntmps7
  go_wp2_with fail
  obtain ⟨W, hW⟩ : ∃ W, W = w.alloc (.cells #[.slice a n c, .slice b m d] 27) := ⟨_, rfl⟩
  have HB := hide (show Below w.heap.size w W by rw [hW]; exact al1_below _ _)
  have R0 := hide (show W.heap[w.heap.size]? = some (.cells #[.slice a n c, .slice b m d] 27 (0, 0)) by rw [hW]; exact al1_0 _ _)
  rw [← hW]
  clear hW
  go_fit (unhide EO _ (fun i hi => (unhide V i hi).next (unhide HB)) (fun i hi => (unhide P i hi).next (unhide HB)))
  rintro r w1 ⟨rfl, hb⟩
  replace HB := hide (below_two (unhide HB) hb)
  replace R0 := hide (row_next hb (unhide R0))
  clear hb EO
  cases x with
  | false =>
    go_wp2_with fail
    go_ret2
    exact ⟨rfl, unhide HB⟩
  | true =>
  have HR := hide (hx.1 rfl)
  clear hx
  have hn24 := (unhide HR).nv24
  have hm24 := (unhide HR).np24
  have hsw := (unhide HB).size
  obtain ⟨r0, r1⟩ := row2 (old_row (.cells #[] 9) (unhide R0))
  go_wp2_with fail
  clear r0 r1
  go_loopw [4, 5, 20] (fun v rs i u => ∃ (k N M : Nat) (p : Option Addr) (cap : Nat) (out : List (List UInt8)) (a' : Option Addr) (c' : Nat), k ≤ n ∧ i = .int .i64 k ∧ v = .slice p out.length cap ∧ rs = .slice a' M c' ∧ M ≤ c' ∧ Hid (N = needN vf k) ∧ Hid (N + M = m) ∧ Hid (out = wordsN vf pf k) ∧ Hid (∀ i, i < M → PtArg w a' i (pf (N + i))) ∧ u.ownsRow w.heap.size 9 1 (.slice p out.length cap) out.length (out.map Sv) ∧ Below w.heap.size w u) (fun _ _ i _ => n - (intOf i).toNat)
  case atStart => exact ⟨0, 0, m, some ⟨w1.heap.size, 0, none⟩, 0, [], b, d, Nat.zero_le _, rfl, rfl, rfl, hd, rfl, Nat.zero_add m, rfl, fun i hi => by have := unhide P i hi; rw [Nat.zero_add]; exact this, World.ownsRow_lit w1 #[] 0 hsw (by decide) rfl, below_new _ (unhide HB) (Nat.le_refl _)⟩
  case round =>
    clear HB R0 hsw
    obtain ⟨k, N, M, p, cap, out, a', c', hk, rfl, rfl, rfl, hMc, hN, hNM, hout, HP, hown, hb⟩ := hrel
    have hlen : out.length ≤ 72 := by rw [unhide hout, wordsN_len]; have h1 := unhide hN; have h2 := unhide hNM; omega
    have O := hide hown
    clear hown
    by_cases hlt : k < n
    · have HZ := (unhide V k hlt).next hb
      have hvk := ((unhide HR).verbs k hlt).1
      have hsum : Hid (needN vf (k + 1) ≤ m) := by unfold Hid; rw [← (unhide HR).sum]; exact needN_mono vf hlt
      have hsum1 : Hid (needN vf (k + 1) = N + needK (vf k)) := by unfold Hid; rw [unhide hN]; rfl
      have hout1 : Hid (wordsN vf pf (k + 1) = out ++ [wordB (vf k)] :: ptsW pf N (needK (vf k))) := by unfold Hid; rw [unhide hout, unhide hN]; rfl
      generalize vf k = z at HZ hvk hsum1 hout1
      obtain ⟨s, o, rfl, g0⟩ := HZ
      have hK3 := needK_le z
      obtain ⟨K, hK⟩ : ∃ K, K = needK z := ⟨_, rfl⟩
      have E := hide (implNeedOf_any z)
      rw [needI_of hvk, ← hK] at E
      rw [← hK] at hsum1 hout1 hK3
      have hKM : K ≤ M := by have h1 := unhide hsum; have h2 := unhide hsum1; have h3 := unhide hNM; omega
      have hl := run_letter hvk
      have hz15 : 1 ≤ z ∧ z ≤ 5 := hvk
      have hwz : IntKind.i64.wrap (z - 1) = z - 1 := IntWalk.i64_in _ (by omega)
      clear hK hvk
      go_wp2_with (at_builtin; go_must (refine wpList_append_vals wr rfl _ _ 42 9 rfl w.heap.size i0 (.string ByteArray.empty) 16 Tryd.underlying42 hi hz0 hz1 hz2 rfl _ (out.map Sv) (by rfl) (own6_map (unhide O)) _ (by intro u hu; simp at hu; subst hu; rfl) 1 1 rfl (by rfl) (by unfold maxLen; simp; omega) (by simp; omega) w w.heap.size (Nat.le_refl _) hb.size hb ?_); intro v' w2 hown' hnx'; replace hown' := row6_snoc hown'; obtain ⟨p', cap', rfl⟩ := own_form hown'; replace hown' := hide hown')
      go_fit (unhide E _)
      rintro r w3 ⟨rfl, hb3⟩
      replace hnx' := below_two hnx' hb3
      replace hown' := hide (own_below (unhide hown') hb3)
      clear hb3 g0 hl hwz hb
      have hcut1 := run_headPts a' M c' K (by omega)
      go_wp2_with fail
      clear hcut1
      go_loopw [4, 37] (fun v i u => ∃ (j : Nat) (p : Option Addr) (cap : Nat) (l : List (List UInt8)), j ≤ K ∧ i = .int .i64 j ∧ v = .slice p l.length cap ∧ Hid (l = out ++ [wordB z] :: ptsW pf N j) ∧ u.ownsRow w.heap.size 9 1 (.slice p l.length cap) l.length (l.map Sv) ∧ Below w.heap.size w u) (fun _ i _ => K - (intOf i).toNat)
      case atStart => exact ⟨0, p', cap', out ++ [[wordB z]], Nat.zero_le _, rfl, by rw [List.length_append]; rfl, rfl, unhide hown', hnx'⟩
      case round =>
        clear hnx' hown' O
        obtain ⟨j, p2, capq, l, hj, rfl, rfl, hl, hown, hb⟩ := hrel
        have hll : l.length ≤ 90 := by rw [unhide hl]; simp [ptsW_len]; omega
        have O := hide hown
        replace hb := hide hb
        clear hown
        by_cases hjl : j < K
        · have HZ := (unhide HP j (by omega)).next (unhide hb)
          have hok := (unhide HR).points (N + j) (by have := unhide hNM; omega)
          have hl1 : Hid (out ++ [wordB z] :: ptsW pf N (j + 1) = l ++ [Lib.itoa (pf (N + j)).1, Lib.itoa (pf (N + j)).2]) := by unfold Hid; rw [unhide hl]; simp [ptsW]
          generalize pf (N + j) = z1 at HZ hok hl1
          obtain ⟨x0, y0⟩ := z1
          obtain ⟨s1, o1, rfl, g0, g1⟩ := HZ
          dsimp only at g0 g1 hl1
          have hrg := pt_range hok
          dsimp only at hrg
          clear hok
          have EDx := hide (fun (u : World) (hu : Below w.heap.size w u) => unhide ED x0 hrg.1 u hu)
          have EDy := hide (fun (u : World) (hu : Below w.heap.size w u) => unhide ED y0 hrg.2 u hu)
          clear hrg
          go_wp2_with fail
          obtain ⟨W5, hW⟩ : ∃ W, W = wr.alloc (.cells #[.int .i64 x0, .int .i64 y0] 44) := ⟨_, rfl⟩
          have P5 := hide (show W5.heap[wr.heap.size]? = some (.cells #[.int .i64 x0, .int .i64 y0] 44 (0, 0)) by rw [hW]; exact new_row _ _)
          replace O := hide (show W5.ownsRow w.heap.size 9 1 (.slice p2 l.length capq) l.length (l.map Sv) by rw [hW]; exact (unhide O).alloc _)
          replace hb := hide (show Below w.heap.size w W5 by rw [hW]; exact below_new _ (unhide hb) (Nat.le_refl _))
          rw [← hW]
          clear hW g0 g1
          generalize wr.heap.size = ps at P5 ⊢
          obtain ⟨t0, t1⟩ := row2 (unhide P5)
          have D5 := hide (Below.refl W5.heap.size W5)
          go_region_law (first | (refine step_call rfl 20 _ (by go_simp) (unhide EDx _ (by first | exact Below.drew (unhide hb) | exact ((unhide hb).trans ((unhide D5).mono (unhide hb).size)))) ?_; rintro r w5 ⟨rfl, hb5⟩; refine ⟨_, rfl, ?_⟩; (try have z1 := kc hb5 t1); clear EDx; replace D5 := hide (show Below W5.heap.size W5 w5 from by first | exact below_undrew hb5 | exact below_two (unhide D5) hb5)) | (refine step_call rfl 20 _ (by go_simp) (unhide EDy _ (by first | exact Below.drew (unhide hb) | exact ((unhide hb).trans ((unhide D5).mono (unhide hb).size)))) ?_; rintro r w5 ⟨rfl, hb5⟩; refine ⟨_, rfl, ?_⟩; (try have z1 := kc hb5 t1); clear EDy; replace D5 := hide (show Below W5.heap.size W5 w5 from by first | exact below_undrew hb5 | exact below_two (unhide D5) hb5)) | (refine step_append_any rfl _ _ 42 9 rfl w.heap.size i0 (.string ByteArray.empty) 1 16 Tryd.underlying42 hi hz0 hz1 hz2 rfl (by decide) (.slice p2 l.length capq) l.length (l.map Sv) (by rfl) ((own_below (unhide O) (unhide D5)).alloc _) ⟨w5.heap.size, 0, none⟩ 2 2 [Sv (Lib.itoa x0), Sv (Lib.itoa y0)] (by rfl) (by rfl) (two_cells w5 _ _) (by intro u hu; simp at hu; rcases hu with rfl | rfl <;> rfl) (by unfold maxLen; omega) (by omega) w w.heap.size (Nat.le_refl _) (by have h1 := (unhide D5).size; have h2 := (unhide hb).size; simp; omega) (below_new _ ((unhide hb).trans ((unhide D5).mono (unhide hb).size)) (by have h1 := (unhide D5).size; have h2 := (unhide hb).size; omega)) ?_; intro v' w6 O6 D6; obtain ⟨p6, cap6, rfl⟩ := own_form O6; replace O6 := hide (row6_two O6); replace D6 := hide D6))
          all_goals
            go_wp2_with fail
            go_roundw
            case rel =>
              refine ⟨j + 1, p6, cap6, l ++ [Lib.itoa x0, Lib.itoa y0], by omega, by go_num, by simp, (unhide hl1).symm, ?_, unhide D6⟩
              have := unhide O6
              rw [show (l ++ [Lib.itoa x0, Lib.itoa y0]).length = l.length + 2 by simp] at this ⊢
              exact this
            case measure => simp [intOf]; omega
        · have hjK : j = K := by omega
          subst hjK
          obtain ⟨M', hM'⟩ : ∃ M', j + M' = M := ⟨M - j, by omega⟩
          have hcut2 := run_restPts a' M c' j M' hM'
          have HP' := hide (adv_pt (unhide HP) hMc hM')
          generalize advA a' j c' = a'' at hcut2 HP'
          have hMc' : M' ≤ c' - j := by omega
          go_wp2_with fail
          go_roundw
          case rel => exact ⟨k + 1, N + j, M', p2, capq, l, a'', c' - j, by omega, by go_num, rfl, rfl, hMc', (unhide hsum1).symm, by have := unhide hNM; show N + j + M' = m; omega, (unhide hl).trans (unhide hout1).symm, fun i hi => by have := unhide HP' i hi; rw [Nat.add_assoc]; exact this, unhide O, unhide hb⟩
          case measure => simp [intOf]; omega
    · have hke : k = n := by omega
      subst hke
      have hNm : needN vf k = m := (unhide HR).sum
      have htl := textN_len (vf := vf) (pf := pf) (k := k) (unhide HR).points (by rw [hNm]; exact Nat.le_refl _)
      rw [hNm] at htl
      have ht : Hid (joinW out = textN vf pf k) := by unfold Hid; rw [unhide hout]; exact (text_join vf pf k).symm
      have J := hide (join_own w.heap.size p cap out wr (unhide O) (by omega) (by rw [unhide ht]; omega))
      rw [unhide ht] at J
      replace hb := hide hb
      clear htl hNm
      go_wp2_with fail
      go_fit (unhide J)
      rintro r w2 ⟨rfl, hb2⟩
      go_wp2_with fail
      go_ret2
      exact ⟨rfl, below_two (unhide hb) hb2⟩
end Go.Proofs.YtkhacppaemilgaaDoor
