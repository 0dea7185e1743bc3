/-
  The walk of the law on turned bytes.
-/
import Derived.Test.YthnekolphepncaaDoorSumU
import Derived.Test.YthnekolphepncaaDoorDrawT
import Derived.Test.YthnekolphepncaaDoorDrawP
namespace Go.Proofs.YthnekolphepncaaDoor
open Go.RowKit

theorem drawSumOf_any (a : Option Addr) (len cap : Nat) (w : World) (hl : len ≤ 1048576) (hin : InB w.heap.size w a len) :
    Calls Tryd.prog 9 #[.slice a len cap] w fun e w' => ∃ l : List UInt8, l.length < 40 ∧ e = .returned (.string ⟨l.toArray⟩) ∧ Below w.heap.size w w' := by
  have HI := hide hin
  clear hin
  go_enter Tryd.func9, Tryd.ntmps9
  go_wp2_with fail
  refine (l01New_any a len cap _ hl (unhide HI)).mono ?_
  rintro e w1 ⟨g, hgB, rfl, hc1, hb1⟩
  have C1 := hide hc1
  have B1 := hide hb1
  clear hc1 hb1
  go_wp2_with fail
  refine (l01Below_any g w.heap.size a len cap 40 (by omega) (by omega) _ hl hgB (unhide B1).size ((unhide HI).below (unhide B1)) (unhide C1)).mono ?_
  rintro e w2 ⟨n, hn, rfl, hc2, hg2⟩
  have B2 := hide ((unhide B1).grown hg2 (unhide B1).size (fun k hk => by cases hk; exact hgB))
  have C2 := hide hc2
  clear hc2 hg2
  go_wp2_with fail
  refine (l01Text_any g w.heap.size a len cap n (by omega) _ hl hgB (unhide B2).size ((unhide HI).below (unhide B2)) (unhide C2)).mono ?_
  rintro e w3 ⟨l, hl3, rfl, hc3, hg3⟩
  have B3 := hide ((unhide B2).grown hg3 (unhide B2).size (fun k hk => by cases hk; exact hgB))
  clear hc3 hg3
  go_wp2
  go_ret
  exact ⟨l, by omega, rfl, unhide B3⟩

theorem sumOf_list (l : List UInt8) (hl : l.length ≤ 1048576) (w : World) (ht : Halves w) :
    Calls Tryd.prog 14 #[.string ⟨l.toArray⟩] w fun e w' => e = .returned (.int .u32 (sumN 4294967295 l : Int)) ∧ w' = w := implSumOf_any ⟨l.toArray⟩ hl w ht

set_option maxHeartbeats 2000000 in
set_option maxRecDepth 100000 in
theorem fnTurned_walk (a0 : Option Addr) (len0 cap0 : Nat) (z0 : List Int) (w : World) (w0 : IsRow .u8 w a0 len0 cap0 z0) (htab : Halves w) :
    Calls Tryd.prog 3 #[.slice a0 len0 cap0] w fun e w' => e = .returned (.bool true) ∧ Below w.heap.size w w' := by
  by_cases hl : len0 ≤ 1048576
  · have HI := hide (InB.of_row w0)
    have HT0 := hide htab
    clear w0 htab
    go_enter Tryd.func3, Tryd.ntmps3
    go_wp2_with fail
    refine (big_no a0 len0 cap0 hl _).mono ?_
    rintro e w1 ⟨rfl, rfl⟩
    go_wp2_with fail
    refine (drawSumOf_any a0 len0 cap0 _ hl (unhide HI)).mono ?_
    rintro e w2 ⟨l, hll, rfl, hb2⟩
    have B2 := hide hb2
    clear hb2
    go_wp2_with fail
    refine (drawPlaces_any a0 len0 cap0 _ hl ((unhide HI).next (unhide B2))).mono ?_
    rintro e w3 ⟨vp, p, hp12, hpb, rfl, hop, hb3⟩
    have B3 := hide (below_two (unhide B2) hb3)
    have OP := hide hop
    clear hop hb3
    obtain ⟨pp, pc, rfl, _, _, _, hpp⟩ := row_form (unhide OP)
    obtain ⟨gp, rfl, hgp1, hgp2⟩ := hpp (by omega)
    have hpl : p.length = 12 := hp12
    obtain ⟨p0, hp0⟩ : ∃ x, p[0]? = some x := ⟨_, List.getElem?_eq_getElem (by omega)⟩
    obtain ⟨p1, hp1⟩ : ∃ x, p[1]? = some x := ⟨_, List.getElem?_eq_getElem (by omega)⟩
    have hp1b : p1 < 10000 := hpb p1 (List.mem_of_getElem? hp1)
    have c0 : w3.cell? ⟨gp, 0, none⟩ = some (.int .i64 (p0 : Int)) := by rw [(unhide OP).cellAt 0 (by omega), List.getElem?_map, hp0]; rfl
    have c1 : w3.cell? ⟨gp, 1, none⟩ = some (.int .i64 (p1 : Int)) := by rw [(unhide OP).cellAt 1 (by omega), List.getElem?_map, hp1]; rfl
    rw [hp12]
    clear hp0 hp1 hpb
    have hsz : (⟨l.toArray⟩ : ByteArray).size = l.length := rfl
    have hdl : (⟨l.toArray⟩ : ByteArray).data.toList = l := by simp
    have h1 := implSealed_yes ⟨l.toArray⟩ (by omega)
    rw [hdl] at h1
    have hTl : (sealL l).length = l.length + 4 := by unfold sealL; rw [List.length_append, fourL_len]
    have hU := unseal_seal l (by omega)
    have HU := hide hU
    have HTn := hide (unseal_turned l)
    obtain ⟨T, hT⟩ : ∃ T, T = sealL l := ⟨_, rfl⟩
    rw [← hT] at h1 hTl hU
    have HT := hide hT
    have hu1 := (us_some (s := ⟨T.toArray⟩) (by rw [List.toList_toArray]; exact hU))
    have h2 := implUnsealed_any ⟨T.toArray⟩ (by show T.toArray.size ≤ _; simp; omega)
    rw [← hu1.1, ← hu1.2] at h2
    have H1 := hide h1
    have H2 := hide h2
    clear h1 h2 hu1 hU hT hdl
    go_wp2_with fail
    have HT3 := hide ((unhide HT0).below (unhide B3))
    refine (unhide H1 _ (unhide HT3)).mono ?_
    rintro e w4 ⟨rfl, hb4⟩
    have B4 := hide hb4
    have HT4 := hide ((unhide HT3).below hb4)
    clear hb4
    go_wp2_with fail
    refine (unhide H2 _ (unhide HT4)).mono ?_
    rintro e w5 ⟨rfl, hb5⟩
    have HT5 := hide ((unhide HT4).below hb5)
    have B5 := hide (below_two (unhide B4) hb5)
    have c05 := ((unhide B5).cell (p := ⟨gp, 0, none⟩) hgp2).trans c0
    have c15 := ((unhide B5).cell (p := ⟨gp, 1, none⟩) hgp2).trans c1
    clear hb5 c0 c1
    have hconv := run_bytes_of_string (P := Tryd.prog) w5 9 22 5 ⟨T.toArray⟩ Tryd.underlying9 Tryd.underlying22 Tryd.underlying5
    have hTs : (⟨T.toArray⟩ : ByteArray).size = T.length := rfl
    rw [hTs] at hconv
    obtain ⟨n, hn⟩ : ∃ n, n = T.length := ⟨_, rfl⟩
    rw [← hn] at hconv hTl
    obtain ⟨K, hK⟩ : ∃ K, K = grownCap w5 n 0 5 := ⟨_, rfl⟩
    have hKn : n ≤ K := by rw [hK]; exact grownCap_ge _ _ _ _
    rw [← hK] at hconv
    obtain ⟨C, hC⟩ : ∃ C, C = bytesRow ⟨T.toArray⟩ K := ⟨_, rfl⟩
    have hCs : C.size = K := by rw [hC]; simp [bytesRow]; have : (⟨T.toArray⟩ : ByteArray).size = n := hn.symm; omega
    have hCj : ∀ j (hj : j < T.length), C[j]? = some (.int .u8 (T[j].toNat : Int)) := fun j hj => by rw [hC, bytesRow_at ⟨T.toArray⟩ K j (by simpa using hj)]; simp
    rw [← hC, hCs] at hconv
    obtain ⟨i, hi, hie⟩ := mod_nat (x := p0) (n := n) (by omega)
    have hit : (p0 : Int).tmod (n : Int) = (i : Int) := by rw [Int.tmod_eq_emod_of_nonneg (by omega)]; exact hie
    have hiT : i < T.length := by omega
    obtain ⟨x, hx⟩ : ∃ x, x = T[i] := ⟨_, rfl⟩
    have hx256 : x.toNat < 256 := x.toNat_lt
    have ci : (w5.alloc (.cells C 5 (K, K + 1))).cell? ⟨w5.heap.size, i, none⟩ = some (.int .u8 (x.toNat : Int)) := by rw [World.cell?_alloc_mark, hCj i hiT, hx]
    have fi : (w5.alloc (.cells C 5 (K, K + 1))).frozen? ⟨w5.heap.size, i, none⟩ = false := by rw [World.frozen?_alloc_mark]; have : decide (K ≤ i) = false := decide_eq_false (by omega); rw [this]; rfl
    have hg5 : gp < w5.heap.size := Nat.lt_of_lt_of_le hgp2 (unhide B5).size
    have d0 : ∀ o, (w5.alloc o).cell? ⟨gp, 0, none⟩ = some (.int .i64 (p0 : Int)) := fun o => (World.cell?_alloc_past o gp 0 hg5).trans c05
    have d1 : ∀ o, (w5.alloc o).cell? ⟨gp, 1, none⟩ = some (.int .i64 (p1 : Int)) := fun o => (World.cell?_alloc_past o gp 1 hg5).trans c15
    have hy1 : 1 + p1 % 255 < 256 := by omega
    have hxor := u8_xor_nat x.toNat (1 + p1 % 255) hx256 hy1
    obtain ⟨nb, hnb⟩ : ∃ nb, nb = x.toNat ^^^ (1 + p1 % 255) := ⟨_, rfl⟩
    have hnb256 : nb < 256 := by rw [hnb]; exact Nat.xor_lt_two_pow (n := 8) hx256 hy1
    have hnbx : nb ≠ x.toNat := by
      intro he
      have e2 : x.toNat ^^^ nb = x.toNat ^^^ x.toNat := by rw [he]
      rw [hnb, ← Nat.xor_assoc, Nat.xor_self, Nat.zero_xor] at e2
      omega
    rw [← hnb] at hxor
    have hTset : unsealL (T.set i (UInt8.ofNat nb)) = none := by
      have := unhide HTn i (UInt8.ofNat nb) (by rw [← unhide HT]; exact hiT) (by
        rw [← unhide HT, List.getElem?_eq_getElem hiT]
        intro he
        have := congrArg UInt8.toNat (Option.some.inj he)
        rw [ofNat_toNat nb hnb256, ← hx] at this
        omega)
      rw [← unhide HT] at this
      exact this
    have hback := run_convert_bytes_back (P := Tryd.prog) ((w5.alloc (.cells C 5 (K, K + 1))).setCell ⟨w5.heap.size, i, none⟩ (.int .u8 (nb : Int))).drew.drew 22 9 5 ⟨w5.heap.size, 0, none⟩ K (T.set i (UInt8.ofNat nb)) Tryd.underlying22 Tryd.underlying5 Tryd.underlying9 (by
      intro j hj
      rw [List.length_set] at hj
      have hadd : (⟨w5.heap.size, 0, none⟩ : Addr).add j = ⟨w5.heap.size, j, none⟩ := by unfold Addr.add; split <;> simp_all
      rw [hadd]
      show ((w5.alloc (.cells C 5 (K, K + 1))).setCell ⟨w5.heap.size, i, none⟩ (.int .u8 (nb : Int))).cell? ⟨w5.heap.size, j, none⟩ = _
      by_cases hji : j = i
      · subst hji
        rw [World.cell?_setCell_same _ _ _ ci, List.getElem_set_self, ofNat_toNat nb hnb256]
      · rw [World.cell?_setCell_other _ _ _ _ (fun e => hji (by injection e with _ h; exact h.symm)), World.cell?_alloc_mark, hCj j hj, List.getElem_set_ne (by omega)])
    rw [List.length_set, ← hn] at hback
    have h3 := implUnsealed_any ⟨(T.set i (UInt8.ofNat nb)).toArray⟩ (by show (T.set i (UInt8.ofNat nb)).toArray.size ≤ _; simp; omega)
    have hu3 := us_none (s := ⟨(T.set i (UInt8.ofNat nb)).toArray⟩) (by rw [List.toList_toArray]; exact hTset)
    rw [← hu3.1, ← hu3.2] at h3
    have H3 := hide h3
    have hxor' : bits .xor .u8 (x.toNat : Int) (1 + (p1 : Int) % 255) = (nb : Int) := by have h := hxor; simpa using h
    clear hxor
    have HL := hide hTl
    have hlen4 : ((T.length : Int) != (l.length : Int) + 4) = false := by rw [← hn, hTl]; simp
    have hn0 : (0 : Int) < (n : Int) := by omega
    have hin' : (i : Int) < (n : Int) := by omega
    have hi0 : (0 : Int) ≤ (i : Int) := by omega
    clear h3 hu3 hTset hC hCs hCj hx hnb hK hn hTs hiT hTl
    go_wp2
    go_region
    go_wp2_with fail
    have HT6 := hide ((unhide HT5).below ((((Below.refl w5.heap.size w5).alloc (Nat.le_refl _) (.cells C 5 (K, K + 1))).setCell (p := ⟨w5.heap.size, i, none⟩) (Nat.le_refl _) (.int .u8 (nb : Int))).drew).drew)
    refine (unhide H3 _ (unhide HT6)).mono ?_
    rintro e w6 ⟨rfl, hb6⟩
    have HT7 := hide ((unhide HT6).below hb6)
    have B6 := hide hb6
    clear hb6
    have hsum := sumN_lt (s := 4294967295) (by decide) l
    have h5 := sumOf_list l (by omega)
    have hadd : ∀ w, (Op.stringOp .add ⟨l.toArray⟩ ⟨#[120]⟩).run Tryd.prog w = .ok (.string ⟨(l ++ [120]).toArray⟩) w := fun w => run_string_add_lists w l [120] (by omega) (by simp)
    have h6 := sumOf_list (l ++ [120]) (by simp; omega)
    rw [sumN_append] at h6
    have h7 := implSumMore_any (sumN 4294967295 l) hsum ⟨#[120]⟩ (by decide)
    have H5 := hide h5
    have H6 := hide h6
    have H7 := hide h7
    clear h5 h6 h7
    go_wp2_with fail
    refine (unhide H5 _ (unhide HT7)).mono ?_
    rintro e w7 ⟨rfl, rfl⟩
    go_wp2_with fail
    refine (unhide H7 _ (unhide HT7)).mono ?_
    rintro e w8 ⟨rfl, rfl⟩
    go_wp2_with fail
    refine (unhide H6 _ (unhide HT7)).mono ?_
    rintro e w9 ⟨rfl, rfl⟩
    go_wp2
    go_ret
    have C5 := below_two (unhide B3) (unhide B5)
    have C6 := (((C5.alloc C5.size (.cells C 5 (K, K + 1))).setCell (p := ⟨w5.heap.size, i, none⟩) C5.size (.int .u8 (nb : Int))).drew).drew
    exact ⟨by simp, C6.trans ((unhide B6).mono (by have := C5.size; simp; omega))⟩
  · go_enter Tryd.func3, Tryd.ntmps3
    go_wp2_with (go_at_call 8; go_must (refine (big_yes a0 len0 cap0 hl _).mono ?_); rintro e w1 ⟨rfl, rfl⟩)
    go_ret
    exact ⟨rfl, Below.refl _ _⟩
end Go.Proofs.YthnekolphepncaaDoor
