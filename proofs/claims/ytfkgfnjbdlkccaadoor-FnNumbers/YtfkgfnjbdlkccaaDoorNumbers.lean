/-
  FnNumbers: a drawn number comes back from VarText and from Decimal, a drawn text from ShortText and Hex.
-/
import Derived.Test.YtfkgfnjbdlkccaaDoorDrawN
import Derived.Test.YtfkgfnjbdlkccaaDoorDrawP
import Derived.Test.YtfkgfnjbdlkccaaDoorBack
import Derived.Test.YtfkgfnjbdlkccaaDoorShortText
import Derived.Test.YtfkgfnjbdlkccaaDoorReadShort
import Derived.Test.YtfkgfnjbdlkccaaDoorReadDec
namespace Go.Proofs.YtfkgfnjbdlkccaaDoor
open Go.RowKit

theorem bytes_of (t : ByteArray) : t = ⟨t.data.toList.toArray⟩ := by simp

theorem size_l (l : List UInt8) : (⟨l.toArray⟩ : ByteArray).size = l.length := rfl

theorem pow10_at' : Tryd.prog.globalNamed "internal/strconv.uint64pow10" = some 0 := by kernel_rfl

/-- The contracts of a number's way there and back. -/
theorem varBack (n : Nat) (hn : n ≤ 1000000000) (V X Y : List UInt8) (hV : V = varF 4 n) (hX : X = [120] ++ V) (hY : Y = X ++ [121]) (w : World) :
    Calls Tryd.prog 7 #[.string ⟨Y.toArray⟩, .int .i64 1] w fun e w' => e = .returned (.tuple #[.int .i64 (n : Int), .int .i64 ((V.length : Int) + 1), .bool true]) ∧ w' = w := by
  have hvl : V.length ≤ 5 := by rw [hV]; exact varF_len 4 n
  have h : rdV ⟨Y.toArray⟩ 1 = some (n, V.length) := by
    have := rdV_varF [120] n [121] hn
    rw [← hV, ← List.append_assoc, ← hX, ← hY] at this
    exact this
  have hy : (⟨Y.toArray⟩ : ByteArray).size = V.length + 2 := by rw [size_l, hY, hX]; simp
  have hc := implReadVar_some ⟨Y.toArray⟩ 1 n V.length (by omega) (by omega) h w
  have e1 : ((1 : Nat) : Int) + (V.length : Int) = (V.length : Int) + 1 := by omega
  rw [e1] at hc
  exact hc

theorem shortBack (t A : ByteArray) (ht : t.size ≤ 20000) (hA : A = ⟨(varF 4 t.size).toArray⟩ ++ t) (w : World) :
    Calls Tryd.prog 12 #[.string A, .int .i64 0] w fun e w' => e = .returned (.tuple #[.string t, .int .i64 (A.size : Int), .bool true]) ∧ Below w.heap.size w w' := by
  have hvl := varF_len 4 t.size
  have hAe : A = ⟨([] ++ (varF 4 t.size ++ t.data.toList)).toArray⟩ := by
    rw [hA]; apply ByteArray.ext; apply Array.ext'; simp
  have h : rdV A 0 = some (t.size, (varF 4 t.size).length) := by
    have := rdV_varF [] t.size t.data.toList (by omega)
    rw [← hAe] at this
    exact this
  have hs : A.size = (varF 4 t.size).length + t.size := by
    rw [hAe, size_l]; simp
  have hc := implReadShort_good A 0 t.size (varF 4 t.size).length (by omega) (by omega) h ht (by omega) w
  have e1 : ((0 : Nat) : Int) + ((varF 4 t.size).length : Int) + (t.size : Int) = (A.size : Int) := by omega
  have e2 : A.extract (0 + (varF 4 t.size).length) (0 + (varF 4 t.size).length + t.size) = t := by
    have := short_back t.data.toList (varF 4 t.size).length (varF 4 t.size) rfl
    rw [← bytes_of t] at this
    rw [hA]
    exact this
  rw [e1, e2] at hc
  exact hc

theorem hexBack (t : ByteArray) (ht : t.size ≤ 20000) (w : World) :
    Calls Tryd.prog 14 #[.string ⟨(hexL t.data.toList).toArray⟩] w fun e w' => e = .returned (.tuple #[.string t, .bool true]) ∧ Below w.heap.size w w' := by
  have hl : (⟨(hexL t.data.toList).toArray⟩ : ByteArray).size = 2 * t.size := by rw [size_l, hexL_len]; rfl
  have hc := implUnhex_yes ⟨(hexL t.data.toList).toArray⟩ (by omega) (by omega) w
  obtain ⟨h1, h2⟩ := uh_hexL t.data.toList
  rw [h1, h2, ← bytes_of t] at hc
  exact hc

theorem decBack (n : Nat) (hn : n ≤ 1000000000) (w : World) (htab : Lib.TabIs Tryd.prog w "internal/strconv.uint64pow10" .u64 Lib.pow10Tab) :
    Calls Tryd.prog 8 #[.string ⟨(Lib.itoa (n : Int)).toArray⟩] w fun e w' => e = .returned (.tuple #[.int .i64 (n : Int), .bool true]) ∧ Below w.heap.size w w' := by
  have hl := Lib.itoa_length_le (n : Int) (by omega) (by omega)
  exact implReadDec_yes ⟨(Lib.itoa (n : Int)).toArray⟩ (by rw [size_l]; omega) n (isDec_itoa n hn) w htab

set_option maxHeartbeats 4000000 in
theorem fnNumbers_walk (a0 : Option Addr) (len0 cap0 : Nat) (z0 : List Int) (w : World) (w0 : IsRow .u8 w a0 len0 cap0 z0) (htab : Lib.TabIs Tryd.prog w "internal/strconv.uint64pow10" .u64 Lib.pow10Tab) :
    Calls Tryd.prog 3 #[.slice a0 len0 cap0] w fun e w' => e = .returned (.bool true) ∧ Below w.heap.size w w' := by
  by_cases hl : len0 ≤ 1048576
  · have HI := hide (InB.of_row w0)
    have HT := hide (fun w' => @tab_below w w' _ _ _ _ pow10_at' htab)
    clear w0 htab
    go_enter Tryd.func3, Tryd.ntmps3
    go_wp2_with fail
    refine (big_no a0 len0 cap0 hl _).mono ?_
    rintro e w1 ⟨rfl, rfl⟩
    go_wp2_with fail
    refine (drawVarText_any a0 len0 cap0 _ hl (unhide HI)).mono ?_
    rintro e w3 ⟨z, ⟨hz0, hz1⟩, rfl, hb3⟩
    have B3 := hide hb3
    clear hb3
    by_cases h0 : z < 0
    · have d0 : decide (z < 0) = true := decide_eq_true h0
      obtain ⟨n, hn, hne⟩ : ∃ n : Nat, n ≤ 1000000000 ∧ (12345 : Int) = (n : Int) := ⟨12345, by omega, rfl⟩
      go_wp2_with fail
      rw [hne]
      clear hne d0 h0
      obtain ⟨V, hV⟩ : ∃ V, V = varF 4 n := ⟨_, rfl⟩
      obtain ⟨X, hX⟩ : ∃ X, X = [120] ++ V := ⟨_, rfl⟩
      obtain ⟨Y, hY⟩ : ∃ Y, Y = X ++ [121] := ⟨_, rfl⟩
      have hvl : V.length ≤ 5 := by rw [hV]; exact varF_len 4 n
      have hxl : X.length ≤ 6 := by rw [hX]; simp; omega
      have HV := implVarText_yes n hn
      rw [← hV] at HV
      have HV := hide HV
      have HR := hide (varBack n hn V X Y hV hX hY)
      have hadd1 : ∀ w, (Op.stringOp .add ⟨#[120]⟩ ⟨V.toArray⟩).run Tryd.prog w = .ok (.string ⟨X.toArray⟩) w := fun w => by rw [hX]; exact run_string_add_lists w [120] V (by simp) (by omega)
      have hadd2 : ∀ w, (Op.stringOp .add ⟨X.toArray⟩ ⟨#[121]⟩).run Tryd.prog w = .ok (.string ⟨Y.toArray⟩) w := fun w => by rw [hY]; exact run_string_add_lists w X [121] (by omega) (by simp)
      have hvs : (⟨V.toArray⟩ : ByteArray).size = V.length := rfl
      clear hV hX hY
      have HD := hide (fun w' h => implDecimal_any (n : Int) (by omega) (by omega) w' (unhide HT w' h))
      have HE := hide (fun w' h => decBack n hn w' (unhide HT w' h))
      generalize (⟨(Lib.itoa (n : Int)).toArray⟩ : ByteArray) = D at HD HE
      refine (unhide HV _).mono ?_
      rintro e w4 ⟨rfl, hb4⟩
      have B4 := hide ((unhide B3).trans (hb4.mono (unhide B3).size))
      clear hb4
      go_wp2_with fail
      refine (unhide HR _).mono ?_
      rintro e w5 ⟨rfl, rfl⟩
      go_wp2_with fail
      refine (unhide HD _ (unhide B4)).mono ?_
      rintro e w6 ⟨rfl, hb6⟩
      have B6 := hide ((unhide B4).trans (hb6.mono (unhide B4).size))
      clear hb6
      go_wp2_with fail
      refine (unhide HE _ (unhide B6)).mono ?_
      rintro e w6a ⟨rfl, hb6a⟩
      have B6a := hide ((unhide B6).trans (hb6a.mono (unhide B6).size))
      clear hb6a
      go_wp2_with fail
      refine (drawHex_any a0 len0 cap0 _ hl ((unhide HI).next (unhide B6a))).mono ?_
      rintro e w7 ⟨l, hll, rfl, hb7⟩
      have B7 := hide ((unhide B6a).trans (hb7.mono (unhide B6a).size))
      clear hb7
      clear HR HV HD HE
      obtain ⟨t, hte⟩ : ∃ t : ByteArray, t = ⟨l.toArray⟩ := ⟨_, rfl⟩
      have hts : t.size = l.length := by rw [hte]; rfl
      rw [← hte]
      rw [← hts] at hll
      clear hte hts
      rcases hll with hll | ⟨hll, hll2⟩
      · have hlt : ¬ (300 : Int) < (t.size : Int) := by omega
        go_wp2_with fail
        have HS := hide (implShortText_yes t (by omega))
        obtain ⟨A, hA⟩ : ∃ A, A = (⟨(varF 4 t.size).toArray⟩ ++ t : ByteArray) := ⟨_, rfl⟩
        have HB := hide (shortBack t A (by omega) hA)
        rw [← hA] at HS
        have HX := hide (implHex_yes t (by omega))
        have HU := hide (hexBack t (by omega))
        generalize (⟨(hexL t.data.toList).toArray⟩ : ByteArray) = H at HX HU
        clear hA
        refine (unhide HS _).mono ?_
        rintro e w8 ⟨rfl, hb8⟩
        have B8 := hide ((unhide B7).trans (hb8.mono (unhide B7).size))
        clear hb8
        go_wp2_with fail
        refine (unhide HB _).mono ?_
        rintro e w9 ⟨rfl, hb9⟩
        have B9 := hide ((unhide B8).trans (hb9.mono (unhide B8).size))
        clear hb9
        go_wp2_with fail
        refine (unhide HX _).mono ?_
        rintro e w10 ⟨rfl, hb10⟩
        have B10 := hide ((unhide B9).trans (hb10.mono (unhide B9).size))
        clear hb10
        go_wp2_with fail
        refine (unhide HU _).mono ?_
        rintro e w11 ⟨rfl, hb11⟩
        have B11 := hide ((unhide B10).trans (hb11.mono (unhide B10).size))
        clear hb11
        go_wp2
        go_ret
        exact ⟨rfl, unhide B11⟩
      · have hlt : (300 : Int) < (t.size : Int) := by omega
        go_wp2_with fail
        obtain ⟨t2, ht2⟩ : ∃ t2 : ByteArray, t2 = ⟨#[97, 98, 99]⟩ := ⟨_, rfl⟩
        have hl3 : t2.size = 3 := by rw [ht2]; rfl
        rw [← ht2]
        clear ht2 hll hll2 hlt
        have HS := hide (implShortText_yes t2 (by omega))
        obtain ⟨A, hA⟩ : ∃ A, A = (⟨(varF 4 t2.size).toArray⟩ ++ t2 : ByteArray) := ⟨_, rfl⟩
        have HB := hide (shortBack t2 A (by omega) hA)
        rw [← hA] at HS
        have HX := hide (implHex_yes t2 (by omega))
        have HU := hide (hexBack t2 (by omega))
        generalize (⟨(hexL t2.data.toList).toArray⟩ : ByteArray) = H at HX HU
        clear hA
        refine (unhide HS _).mono ?_
        rintro e w8 ⟨rfl, hb8⟩
        have B8 := hide ((unhide B7).trans (hb8.mono (unhide B7).size))
        clear hb8
        go_wp2_with fail
        refine (unhide HB _).mono ?_
        rintro e w9 ⟨rfl, hb9⟩
        have B9 := hide ((unhide B8).trans (hb9.mono (unhide B8).size))
        clear hb9
        go_wp2_with fail
        refine (unhide HX _).mono ?_
        rintro e w10 ⟨rfl, hb10⟩
        have B10 := hide ((unhide B9).trans (hb10.mono (unhide B9).size))
        clear hb10
        go_wp2_with fail
        refine (unhide HU _).mono ?_
        rintro e w11 ⟨rfl, hb11⟩
        have B11 := hide ((unhide B10).trans (hb11.mono (unhide B10).size))
        clear hb11
        go_wp2
        go_ret
        exact ⟨rfl, unhide B11⟩
    · have d0 : decide (z < 0) = false := decide_eq_false h0
      by_cases h1 : 1000000000 < z
      · have d1 : decide (1000000000 < z) = true := decide_eq_true h1
        obtain ⟨n, hn, hne⟩ : ∃ n : Nat, n ≤ 1000000000 ∧ (12345 : Int) = (n : Int) := ⟨12345, by omega, rfl⟩
        go_wp2_with fail
        rw [hne]
        clear hne d0 h0 d1 h1
        obtain ⟨V, hV⟩ : ∃ V, V = varF 4 n := ⟨_, rfl⟩
        obtain ⟨X, hX⟩ : ∃ X, X = [120] ++ V := ⟨_, rfl⟩
        obtain ⟨Y, hY⟩ : ∃ Y, Y = X ++ [121] := ⟨_, rfl⟩
        have hvl : V.length ≤ 5 := by rw [hV]; exact varF_len 4 n
        have hxl : X.length ≤ 6 := by rw [hX]; simp; omega
        have HV := implVarText_yes n hn
        rw [← hV] at HV
        have HV := hide HV
        have HR := hide (varBack n hn V X Y hV hX hY)
        have hadd1 : ∀ w, (Op.stringOp .add ⟨#[120]⟩ ⟨V.toArray⟩).run Tryd.prog w = .ok (.string ⟨X.toArray⟩) w := fun w => by rw [hX]; exact run_string_add_lists w [120] V (by simp) (by omega)
        have hadd2 : ∀ w, (Op.stringOp .add ⟨X.toArray⟩ ⟨#[121]⟩).run Tryd.prog w = .ok (.string ⟨Y.toArray⟩) w := fun w => by rw [hY]; exact run_string_add_lists w X [121] (by omega) (by simp)
        have hvs : (⟨V.toArray⟩ : ByteArray).size = V.length := rfl
        clear hV hX hY
        have HD := hide (fun w' h => implDecimal_any (n : Int) (by omega) (by omega) w' (unhide HT w' h))
        have HE := hide (fun w' h => decBack n hn w' (unhide HT w' h))
        generalize (⟨(Lib.itoa (n : Int)).toArray⟩ : ByteArray) = D at HD HE
        refine (unhide HV _).mono ?_
        rintro e w4 ⟨rfl, hb4⟩
        have B4 := hide ((unhide B3).trans (hb4.mono (unhide B3).size))
        clear hb4
        go_wp2_with fail
        refine (unhide HR _).mono ?_
        rintro e w5 ⟨rfl, rfl⟩
        go_wp2_with fail
        refine (unhide HD _ (unhide B4)).mono ?_
        rintro e w6 ⟨rfl, hb6⟩
        have B6 := hide ((unhide B4).trans (hb6.mono (unhide B4).size))
        clear hb6
        go_wp2_with fail
        refine (unhide HE _ (unhide B6)).mono ?_
        rintro e w6a ⟨rfl, hb6a⟩
        have B6a := hide ((unhide B6).trans (hb6a.mono (unhide B6).size))
        clear hb6a
        go_wp2_with fail
        refine (drawHex_any a0 len0 cap0 _ hl ((unhide HI).next (unhide B6a))).mono ?_
        rintro e w7 ⟨l, hll, rfl, hb7⟩
        have B7 := hide ((unhide B6a).trans (hb7.mono (unhide B6a).size))
        clear hb7
        clear HR HV HD HE
        obtain ⟨t, hte⟩ : ∃ t : ByteArray, t = ⟨l.toArray⟩ := ⟨_, rfl⟩
        have hts : t.size = l.length := by rw [hte]; rfl
        rw [← hte]
        rw [← hts] at hll
        clear hte hts
        rcases hll with hll | ⟨hll, hll2⟩
        · have hlt : ¬ (300 : Int) < (t.size : Int) := by omega
          go_wp2_with fail
          have HS := hide (implShortText_yes t (by omega))
          obtain ⟨A, hA⟩ : ∃ A, A = (⟨(varF 4 t.size).toArray⟩ ++ t : ByteArray) := ⟨_, rfl⟩
          have HB := hide (shortBack t A (by omega) hA)
          rw [← hA] at HS
          have HX := hide (implHex_yes t (by omega))
          have HU := hide (hexBack t (by omega))
          generalize (⟨(hexL t.data.toList).toArray⟩ : ByteArray) = H at HX HU
          clear hA
          refine (unhide HS _).mono ?_
          rintro e w8 ⟨rfl, hb8⟩
          have B8 := hide ((unhide B7).trans (hb8.mono (unhide B7).size))
          clear hb8
          go_wp2_with fail
          refine (unhide HB _).mono ?_
          rintro e w9 ⟨rfl, hb9⟩
          have B9 := hide ((unhide B8).trans (hb9.mono (unhide B8).size))
          clear hb9
          go_wp2_with fail
          refine (unhide HX _).mono ?_
          rintro e w10 ⟨rfl, hb10⟩
          have B10 := hide ((unhide B9).trans (hb10.mono (unhide B9).size))
          clear hb10
          go_wp2_with fail
          refine (unhide HU _).mono ?_
          rintro e w11 ⟨rfl, hb11⟩
          have B11 := hide ((unhide B10).trans (hb11.mono (unhide B10).size))
          clear hb11
          go_wp2
          go_ret
          exact ⟨rfl, unhide B11⟩
        · have hlt : (300 : Int) < (t.size : Int) := by omega
          go_wp2_with fail
          obtain ⟨t2, ht2⟩ : ∃ t2 : ByteArray, t2 = ⟨#[97, 98, 99]⟩ := ⟨_, rfl⟩
          have hl3 : t2.size = 3 := by rw [ht2]; rfl
          rw [← ht2]
          clear ht2 hll hll2 hlt
          have HS := hide (implShortText_yes t2 (by omega))
          obtain ⟨A, hA⟩ : ∃ A, A = (⟨(varF 4 t2.size).toArray⟩ ++ t2 : ByteArray) := ⟨_, rfl⟩
          have HB := hide (shortBack t2 A (by omega) hA)
          rw [← hA] at HS
          have HX := hide (implHex_yes t2 (by omega))
          have HU := hide (hexBack t2 (by omega))
          generalize (⟨(hexL t2.data.toList).toArray⟩ : ByteArray) = H at HX HU
          clear hA
          refine (unhide HS _).mono ?_
          rintro e w8 ⟨rfl, hb8⟩
          have B8 := hide ((unhide B7).trans (hb8.mono (unhide B7).size))
          clear hb8
          go_wp2_with fail
          refine (unhide HB _).mono ?_
          rintro e w9 ⟨rfl, hb9⟩
          have B9 := hide ((unhide B8).trans (hb9.mono (unhide B8).size))
          clear hb9
          go_wp2_with fail
          refine (unhide HX _).mono ?_
          rintro e w10 ⟨rfl, hb10⟩
          have B10 := hide ((unhide B9).trans (hb10.mono (unhide B9).size))
          clear hb10
          go_wp2_with fail
          refine (unhide HU _).mono ?_
          rintro e w11 ⟨rfl, hb11⟩
          have B11 := hide ((unhide B10).trans (hb11.mono (unhide B10).size))
          clear hb11
          go_wp2
          go_ret
          exact ⟨rfl, unhide B11⟩
      · have d1 : decide (1000000000 < z) = false := decide_eq_false h1
        obtain ⟨n, rfl⟩ : ∃ n : Nat, z = (n : Int) := ⟨z.toNat, by omega⟩
        have hn : n ≤ 1000000000 := by omega
        go_wp2_with fail
        clear d0 h0 d1 h1
        obtain ⟨V, hV⟩ : ∃ V, V = varF 4 n := ⟨_, rfl⟩
        obtain ⟨X, hX⟩ : ∃ X, X = [120] ++ V := ⟨_, rfl⟩
        obtain ⟨Y, hY⟩ : ∃ Y, Y = X ++ [121] := ⟨_, rfl⟩
        have hvl : V.length ≤ 5 := by rw [hV]; exact varF_len 4 n
        have hxl : X.length ≤ 6 := by rw [hX]; simp; omega
        have HV := implVarText_yes n hn
        rw [← hV] at HV
        have HV := hide HV
        have HR := hide (varBack n hn V X Y hV hX hY)
        have hadd1 : ∀ w, (Op.stringOp .add ⟨#[120]⟩ ⟨V.toArray⟩).run Tryd.prog w = .ok (.string ⟨X.toArray⟩) w := fun w => by rw [hX]; exact run_string_add_lists w [120] V (by simp) (by omega)
        have hadd2 : ∀ w, (Op.stringOp .add ⟨X.toArray⟩ ⟨#[121]⟩).run Tryd.prog w = .ok (.string ⟨Y.toArray⟩) w := fun w => by rw [hY]; exact run_string_add_lists w X [121] (by omega) (by simp)
        have hvs : (⟨V.toArray⟩ : ByteArray).size = V.length := rfl
        clear hV hX hY
        have HD := hide (fun w' h => implDecimal_any (n : Int) (by omega) (by omega) w' (unhide HT w' h))
        have HE := hide (fun w' h => decBack n hn w' (unhide HT w' h))
        generalize (⟨(Lib.itoa (n : Int)).toArray⟩ : ByteArray) = D at HD HE
        refine (unhide HV _).mono ?_
        rintro e w4 ⟨rfl, hb4⟩
        have B4 := hide ((unhide B3).trans (hb4.mono (unhide B3).size))
        clear hb4
        go_wp2_with fail
        refine (unhide HR _).mono ?_
        rintro e w5 ⟨rfl, rfl⟩
        go_wp2_with fail
        refine (unhide HD _ (unhide B4)).mono ?_
        rintro e w6 ⟨rfl, hb6⟩
        have B6 := hide ((unhide B4).trans (hb6.mono (unhide B4).size))
        clear hb6
        go_wp2_with fail
        refine (unhide HE _ (unhide B6)).mono ?_
        rintro e w6a ⟨rfl, hb6a⟩
        have B6a := hide ((unhide B6).trans (hb6a.mono (unhide B6).size))
        clear hb6a
        go_wp2_with fail
        refine (drawHex_any a0 len0 cap0 _ hl ((unhide HI).next (unhide B6a))).mono ?_
        rintro e w7 ⟨l, hll, rfl, hb7⟩
        have B7 := hide ((unhide B6a).trans (hb7.mono (unhide B6a).size))
        clear hb7
        clear HR HV HD HE
        obtain ⟨t, hte⟩ : ∃ t : ByteArray, t = ⟨l.toArray⟩ := ⟨_, rfl⟩
        have hts : t.size = l.length := by rw [hte]; rfl
        rw [← hte]
        rw [← hts] at hll
        clear hte hts
        rcases hll with hll | ⟨hll, hll2⟩
        · have hlt : ¬ (300 : Int) < (t.size : Int) := by omega
          go_wp2_with fail
          have HS := hide (implShortText_yes t (by omega))
          obtain ⟨A, hA⟩ : ∃ A, A = (⟨(varF 4 t.size).toArray⟩ ++ t : ByteArray) := ⟨_, rfl⟩
          have HB := hide (shortBack t A (by omega) hA)
          rw [← hA] at HS
          have HX := hide (implHex_yes t (by omega))
          have HU := hide (hexBack t (by omega))
          generalize (⟨(hexL t.data.toList).toArray⟩ : ByteArray) = H at HX HU
          clear hA
          refine (unhide HS _).mono ?_
          rintro e w8 ⟨rfl, hb8⟩
          have B8 := hide ((unhide B7).trans (hb8.mono (unhide B7).size))
          clear hb8
          go_wp2_with fail
          refine (unhide HB _).mono ?_
          rintro e w9 ⟨rfl, hb9⟩
          have B9 := hide ((unhide B8).trans (hb9.mono (unhide B8).size))
          clear hb9
          go_wp2_with fail
          refine (unhide HX _).mono ?_
          rintro e w10 ⟨rfl, hb10⟩
          have B10 := hide ((unhide B9).trans (hb10.mono (unhide B9).size))
          clear hb10
          go_wp2_with fail
          refine (unhide HU _).mono ?_
          rintro e w11 ⟨rfl, hb11⟩
          have B11 := hide ((unhide B10).trans (hb11.mono (unhide B10).size))
          clear hb11
          go_wp2
          go_ret
          exact ⟨rfl, unhide B11⟩
        · have hlt : (300 : Int) < (t.size : Int) := by omega
          go_wp2_with fail
          obtain ⟨t2, ht2⟩ : ∃ t2 : ByteArray, t2 = ⟨#[97, 98, 99]⟩ := ⟨_, rfl⟩
          have hl3 : t2.size = 3 := by rw [ht2]; rfl
          rw [← ht2]
          clear ht2 hll hll2 hlt
          have HS := hide (implShortText_yes t2 (by omega))
          obtain ⟨A, hA⟩ : ∃ A, A = (⟨(varF 4 t2.size).toArray⟩ ++ t2 : ByteArray) := ⟨_, rfl⟩
          have HB := hide (shortBack t2 A (by omega) hA)
          rw [← hA] at HS
          have HX := hide (implHex_yes t2 (by omega))
          have HU := hide (hexBack t2 (by omega))
          generalize (⟨(hexL t2.data.toList).toArray⟩ : ByteArray) = H at HX HU
          clear hA
          refine (unhide HS _).mono ?_
          rintro e w8 ⟨rfl, hb8⟩
          have B8 := hide ((unhide B7).trans (hb8.mono (unhide B7).size))
          clear hb8
          go_wp2_with fail
          refine (unhide HB _).mono ?_
          rintro e w9 ⟨rfl, hb9⟩
          have B9 := hide ((unhide B8).trans (hb9.mono (unhide B8).size))
          clear hb9
          go_wp2_with fail
          refine (unhide HX _).mono ?_
          rintro e w10 ⟨rfl, hb10⟩
          have B10 := hide ((unhide B9).trans (hb10.mono (unhide B9).size))
          clear hb10
          go_wp2_with fail
          refine (unhide HU _).mono ?_
          rintro e w11 ⟨rfl, hb11⟩
          have B11 := hide ((unhide B10).trans (hb11.mono (unhide B10).size))
          clear hb11
          go_wp2
          go_ret
          exact ⟨rfl, unhide B11⟩
  · go_enter Tryd.func3, Tryd.ntmps3
    go_wp2_with (go_at_call 4; go_must (refine (big_yes a0 len0 cap0 hl _).mono ?_); rintro e w1 ⟨rfl, rfl⟩)
    go_ret
    exact ⟨rfl, Below.refl _ _⟩
end Go.Proofs.YtfkgfnjbdlkccaaDoor
