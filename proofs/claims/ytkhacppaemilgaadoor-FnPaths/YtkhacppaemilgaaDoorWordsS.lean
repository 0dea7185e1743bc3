/-
  The specification's words of a text, and its numbers with a sign.
-/
import Derived.Test.YtkhacppaemilgaaDoorTextS
import Derived.Test.YtkhacppaemilgaaDoorReadDec
namespace Go.Proofs.YtkhacppaemilgaaDoor
open Go.RowKit

theorem infoStr : (Tryd.prog.info? 9).map (fun i => (i.zero, i.size, i.bytes)) = some (some (.string ByteArray.empty), 1, 16) := by kernel_rfl
/-- A piece of a text. -/
def cut6 (s : ByteArray) (b i : Nat) : List UInt8 := (s.data.toList.drop b).take (i - b)
theorem cut6_same (s : ByteArray) (i : Nat) : cut6 s i i = [] := by simp [cut6]
theorem cut6_more {s : ByteArray} {b i : Nat} (h1 : b ≤ i) (h2 : i < s.size) : cut6 s b (i + 1) = cut6 s b i ++ [s[i]] := by
  have hl : i < s.data.toList.length := by rw [Array.length_toList]; exact h2
  have e : s.data.toList[i] = s[i] := by simp; rfl
  unfold cut6
  rw [show i + 1 - b = (i - b) + 1 by omega, List.take_add_one, List.getElem?_drop, show b + (i - b) = i by omega, List.getElem?_eq_getElem hl, e]
  rfl
theorem drop6 {s : ByteArray} {i : Nat} (h2 : i < s.size) : s.data.toList.drop i = s[i] :: s.data.toList.drop (i + 1) := drop_at s i h2
theorem ext6 (s : ByteArray) (b i : Nat) : s.extract b i = ⟨(cut6 s b i).toArray⟩ := by
  apply ByteArray.ext
  rw [ByteArray.data_extract]
  apply Array.toList_inj.1
  simp [cut6, List.take_drop]
theorem run_cut6 (s : ByteArray) (i j : Nat) (h1 : i ≤ j) (h2 : j ≤ s.size) (w : World) :
    (Instr.slice 9 (.string s) (some (.int .i64 (i : Int))) (some (.int .i64 (j : Int))) none).run Tryd.prog w = .ok (.string ⟨(cut6 s i j).toArray⟩) w := by
  rw [run_slice_string_if w 9 s .i64 .i64 i j Tryd.underlying9, if_pos ⟨by omega, by omega⟩, if_pos ⟨by omega, by omega⟩]
  have : s.extract (i : Int).toNat (j : Int).toNat = s.extract i j := rfl
  rw [this, ext6]
theorem row6_snoc {w : World} {base : Nat} {v : Value} {out : List (List UInt8)} {c : List UInt8} (h : w.ownsRow base 9 1 v (out.map Sv ++ #[Value.string ⟨c.toArray⟩].toList).length (out.map Sv ++ #[Value.string ⟨c.toArray⟩].toList)) :
    w.ownsRow base 9 1 v (out ++ [c]).length ((out ++ [c]).map Sv) := by
  have e : (out ++ [c]).map Sv = out.map Sv ++ #[Value.string ⟨c.toArray⟩].toList := by rw [List.map_append]; rfl
  have e2 : (out ++ [c]).length = (out.map Sv ++ #[Value.string ⟨c.toArray⟩].toList).length := by simp
  rw [e, e2]; exact h
theorem own6_map {w : World} {base : Nat} {v : Value} {out : List (List UInt8)} (h : w.ownsRow base 9 1 v out.length (out.map Sv)) : w.ownsRow base 9 1 v (out.map Sv).length (out.map Sv) := by
  rw [List.length_map]; exact h

/-- Where the gathering of words stands. -/
def At6 (s : ByteArray) (i b : Nat) (out : List (List UInt8)) : Prop :=
  (i ≤ s.size ∧ b ≤ i ∧ out.length ≤ i ∧ out ++ splitA (cut6 s b i) (s.data.toList.drop i) = splitA [] s.data.toList) ∨ (i = s.size + 1 ∧ out = splitA [] s.data.toList)
theorem At6.start (s : ByteArray) : At6 s 0 0 [] := .inl ⟨Nat.zero_le _, Nat.le_refl _, Nat.le_refl _, by simp [cut6]⟩
theorem At6.more {s : ByteArray} {i b : Nat} {out : List (List UInt8)} (h : At6 s i b out) (hi : i < s.size) (hn : s[i].toNat ≠ 32) : At6 s (i + 1) b out := by
  rcases h with ⟨h1, h2, h3, h4⟩ | ⟨h1, _⟩
  · refine .inl ⟨hi, by omega, by omega, ?_⟩
    rw [← h4, drop6 hi, cut6_more h2 hi]
    have : s[i] ≠ 32 := fun e => hn (by rw [e]; rfl)
    simp only [splitA]
    rw [if_neg this]
  · omega
theorem At6.blank {s : ByteArray} {i b : Nat} {out : List (List UInt8)} (h : At6 s i b out) (hi : i < s.size) (hn : s[i].toNat = 32) : At6 s (i + 1) (i + 1) (out ++ [cut6 s b i]) := by
  rcases h with ⟨h1, h2, h3, h4⟩ | ⟨h1, _⟩
  · refine .inl ⟨hi, Nat.le_refl _, by rw [List.length_append]; simp; omega, ?_⟩
    rw [← h4, drop6 hi, cut6_same]
    have : s[i] = 32 := UInt8.toNat_inj.1 hn
    simp only [splitA]
    rw [if_pos this, List.append_assoc]; rfl
  · omega
theorem At6.last {s : ByteArray} {i b : Nat} {out : List (List UInt8)} (h : At6 s i b out) (hi : i = s.size) : At6 s (i + 1) (i + 1) (out ++ [cut6 s b i]) := by
  rcases h with ⟨h1, h2, h3, h4⟩ | ⟨h1, _⟩
  · refine .inr ⟨by omega, ?_⟩
    rw [← h4, List.drop_eq_nil_of_le (by rw [Array.length_toList]; exact Nat.le_of_eq hi.symm)]; rfl
  · omega

set_option maxHeartbeats 4000000 in
set_option maxRecDepth 100000 in
theorem l06Words_any (s : ByteArray) (hs : s.size ≤ 1048576) (w : World) :
    Calls Tryd.prog 33 #[.string s] w fun r w' => ∃ p cap, r = .returned (.slice p (splitA [] s.data.toList).length cap) ∧ w'.ownsRow w.heap.size 9 1 (.slice p (splitA [] s.data.toList).length cap) (splitA [] s.data.toList).length ((splitA [] s.data.toList).map Sv) ∧ Below w.heap.size w w' := by
  obtain ⟨i0, hi, hz0, hz1, hz2⟩ := info_parts infoStr
  go_enter Tryd.func33, Tryd.ntmps33
  go_wp2_with fail
  go_loopw [3, 4, 5] (fun v b i u => ∃ (k bg : Nat) (out : List (List UInt8)) (p : Option Addr) (cap : Nat), k ≤ s.size + 1 ∧ i = .int .i64 k ∧ b = .int .i64 bg ∧ v = .slice p out.length cap ∧ Hid (At6 s k bg out) ∧ u.ownsRow w.heap.size 9 1 (.slice p out.length cap) out.length (out.map Sv) ∧ Below w.heap.size w u) (fun _ _ i _ => s.size + 1 - (intOf i).toNat)
  case atStart => exact ⟨0, 0, [], some ⟨w.heap.size, 0, none⟩, 0, Nat.zero_le _, rfl, rfl, rfl, At6.start s, World.ownsRow_lit w #[] 0 (Nat.le_refl _) (by decide) rfl, al1_below _ _⟩
  case round =>
    obtain ⟨k, bg, out, p, cap, hk, rfl, rfl, rfl, HA, hown, hnx⟩ := hrel
    have HO := hide hown
    have HN := hide hnx
    clear hown
    by_cases hle : k ≤ s.size
    · obtain ⟨hbk, hok⟩ : bg ≤ k ∧ out.length ≤ k := by
        rcases unhide HA with ⟨_, h2, h3, _⟩ | ⟨h1, _⟩
        · exact ⟨h2, h3⟩
        · omega
      have hle' : (k : Int) ≤ (s.size : Int) := by omega
      have hcut := fun w => run_cut6 s bg k hbk hle w
      by_cases hlt : k < s.size
      · have hne : ¬ ((k : Int) = (s.size : Int)) := by omega
        have hb0 : s[k].toNat < 256 := s[k].toNat_lt
        by_cases h32 : s[k].toNat = 32
        · have HA' := hide ((unhide HA).blank hlt h32)
          have hc32 : ((s[k].toNat : Int) = 32) := by omega
          clear h32
          go_wp2_with (at_builtin; go_must (refine wpList_append_vals wr rfl _ _ 42 9 rfl w.heap.size i0 (.string ByteArray.empty) 16 Tryd.underlying42 hi hz0 hz1 hz2 rfl _ (out.map Sv) (by rfl) (own6_map (unhide HO)) _ (by intro u hu; simp at hu; subst hu; rfl) 1 1 rfl (by rfl) (by unfold maxLen; simp; omega) (by simp; omega) w w.heap.size (Nat.le_refl _) hnx.size hnx ?_); intro v' w1 hown' hnx'; replace hown' := row6_snoc hown'; obtain ⟨p', cap', rfl⟩ := own_form hown'; replace hown' := hide hown')
          go_roundw
          case rel => exact ⟨k + 1, k + 1, out ++ [cut6 s bg k], p', cap', by omega, by go_num, by go_num, by rw [List.length_append]; rfl, unhide HA', unhide hown', hnx'⟩
          case measure => simp [intOf]; omega
        · have HA' := hide ((unhide HA).more hlt h32)
          have hc32 : ¬ ((s[k].toNat : Int) = 32) := by omega
          have hc33 : ((s[k].toNat : Int) == 32) = false := beq_eq_false_iff_ne.2 hc32
          clear h32 hcut
          go_wp2_with fail
          go_roundw
          case rel => exact ⟨k + 1, bg, out, p, cap, by omega, by go_num, by go_num, rfl, unhide HA', unhide HO, hnx⟩
          case measure => simp [intOf]; omega
      · have hke : (k : Int) = (s.size : Int) := by omega
        have HA' := hide ((unhide HA).last (by omega))
        obtain rfl : k = s.size := by omega
        clear hke hlt
        go_wp2_with (at_builtin; go_must (refine wpList_append_vals wr rfl _ _ 42 9 rfl w.heap.size i0 (.string ByteArray.empty) 16 Tryd.underlying42 hi hz0 hz1 hz2 rfl _ (out.map Sv) (by rfl) (own6_map (unhide HO)) _ (by intro u hu; simp at hu; subst hu; rfl) 1 1 rfl (by rfl) (by unfold maxLen; simp; omega) (by simp; omega) w w.heap.size (Nat.le_refl _) hnx.size hnx ?_); intro v' w1 hown' hnx'; replace hown' := row6_snoc hown'; obtain ⟨p', cap', rfl⟩ := own_form hown'; replace hown' := hide hown')
        go_roundw
        case rel => exact ⟨s.size + 1, s.size + 1, out ++ [cut6 s bg s.size], p', cap', by omega, by go_num, by go_num, by rw [List.length_append]; rfl, unhide HA', unhide hown', hnx'⟩
        case measure => simp [intOf]
    · have hke : k = s.size + 1 := by omega
      have ho : out = splitA [] s.data.toList := by
        rcases unhide HA with ⟨h1, _⟩ | ⟨_, h2⟩
        · omega
        · exact h2
      subst ho
      have hle' : ¬ (k : Int) ≤ (s.size : Int) := by omega
      clear hke hle hk
      go_wp2_with fail
      go_ret
      exact ⟨p, cap, rfl, unhide HO, hnx⟩

/-- A text is the Decimal of a number of the kind that l06Signed reads. -/
def isNum (l : List UInt8) (z : Int) : Prop := -1000000000 ≤ z ∧ z ≤ 1000000000 ∧ l = Lib.itoa z
theorem isNum_pos {l : List UInt8} {m : Nat} (h : isDec l m) : isNum l m := ⟨by omega, by have := h.1; omega, h.2⟩
theorem isNum_dec {l : List UInt8} {z : Int} (h : isNum l z) (hz : 0 ≤ z) : isDec l z.toNat := ⟨by have := h.2.1; omega, by rw [show ((z.toNat : Nat) : Int) = z by omega]; exact h.2.2⟩
theorem isNum_neg {l : List UInt8} {z : Int} (h : isNum l z) (hz : z < 0) : ∃ t, l = 45 :: t ∧ isDec t (-z).toNat := by
  obtain ⟨u, rfl⟩ : ∃ u : Nat, z = -(u : Int) := ⟨z.natAbs, by omega⟩
  refine ⟨dd u, by rw [h.2.2]; exact itoa_neg' u (by omega), ?_, ?_⟩
  · have := h.1; omega
  · rw [show ((- -(u : Int)).toNat : Int) = (u : Int) by omega, itoa_pos u (by omega)]
theorem isNum_of_neg {t : List UInt8} {m : Nat} (h : isDec t m) (hm : 0 < m) : isNum (45 :: t) (-(m : Int)) := by
  refine ⟨by have := h.1; omega, by omega, ?_⟩
  rw [itoa_neg' m (by omega), h.2, itoa_pos m (by omega)]

theorem tail6 (s : ByteArray) : (s.extract 1 s.size).data.toList = s.data.toList.drop 1 := by
  rw [ext6]
  have : s.data.toList.length = s.size := by rw [Array.length_toList]; rfl
  simp only [cut6]
  rw [List.take_of_length_le (by rw [List.length_drop, this]; exact Nat.le_refl _)]
theorem first6 {s : ByteArray} (h : 0 < s.size) : s.data.toList = s[0] :: s.data.toList.drop 1 := drop_at s 0 h

theorem signed_dec (s : ByteArray) (z : Int) (hm : ¬ (1 < s.size ∧ ∃ h : 0 < s.size, s[0].toNat = 45)) (v : Value) (w : World) (E : ∀ w, Calls Tryd.prog 55 #[.string s] w fun r w' => r = .returned (.tuple #[.int .i64 z, v]) ∧ Below w.heap.size w w') :
    Calls Tryd.prog 34 #[.string s] w fun r w' => r = .returned (.tuple #[.int .i64 z, v]) ∧ Below w.heap.size w w' := by
  replace E := hide E
  by_cases h1 : 1 < s.size
  · have h1' : (1 : Int) < (s.size : Int) := by omega
    have hs0 : 0 < s.size := by omega
    have hne : ¬ ((s[0].toNat : Int) = 45) := fun h => hm ⟨h1, hs0, by omega⟩
    have hne' : ((s[0].toNat : Int) == 45) = false := beq_eq_false_iff_ne.2 hne
    have hb0 : s[0].toNat < 256 := s[0].toNat_lt
    clear hm
    go_enter Tryd.func34, Tryd.ntmps34
    go_wp2_with fail
    go_fit (unhide E _)
    rintro r w1 ⟨rfl, hb⟩
    go_wp2_with fail
    go_ret2
    exact ⟨rfl, hb⟩
  · have h1' : ¬ (1 : Int) < (s.size : Int) := by omega
    clear hm
    go_enter Tryd.func34, Tryd.ntmps34
    go_wp2_with fail
    go_fit (unhide E _)
    rintro r w1 ⟨rfl, hb⟩
    go_wp2_with fail
    go_ret2
    exact ⟨rfl, hb⟩

set_option maxHeartbeats 1000000 in
theorem signed_neg (s : ByteArray) (m : Nat) (ok : Bool) (hm : m ≤ 1000000000) (h1 : 1 < s.size) (hs0 : 0 < s.size) (h45 : s[0].toNat = 45) (w : World) (E : ∀ w, Calls Tryd.prog 55 #[.string (s.extract 1 s.size)] w fun r w' => r = .returned (.tuple #[.int .i64 (m : Int), .bool ok]) ∧ Below w.heap.size w w') :
    Calls Tryd.prog 34 #[.string s] w fun r w' => r = .returned (.tuple #[.int .i64 (-(m : Int)), .bool (ok && decide (0 < m))]) ∧ Below w.heap.size w w' := by
  replace E := hide E
  have h1' : (1 : Int) < (s.size : Int) := by omega
  have h45' : (s[0].toNat : Int) = 45 := by omega
  have hl : (1 : Int) ≤ (s.size : Int) := by omega
  have hw : IntKind.i64.wrap (-(m : Int)) = -(m : Int) := IntWalk.i64_in _ (by omega)
  clear h45
  by_cases h0 : 0 < m
  · have h0' : (0 : Int) < (m : Int) := by omega
    rw [decide_eq_true h0]
    cases ok with
    | true =>
      go_enter Tryd.func34, Tryd.ntmps34
      go_wp2_with fail
      go_fit (unhide E _)
      rintro r w1 ⟨rfl, hb⟩
      go_wp2_with fail
      go_ret2
      exact ⟨rfl, hb⟩
    | false =>
      go_enter Tryd.func34, Tryd.ntmps34
      go_wp2_with fail
      go_fit (unhide E _)
      rintro r w1 ⟨rfl, hb⟩
      go_wp2_with fail
      go_ret2
      exact ⟨rfl, hb⟩
  · have h0' : ¬ (0 : Int) < (m : Int) := by omega
    rw [decide_eq_false h0]
    cases ok with
    | true =>
      go_enter Tryd.func34, Tryd.ntmps34
      go_wp2_with fail
      go_fit (unhide E _)
      rintro r w1 ⟨rfl, hb⟩
      go_wp2_with fail
      go_ret2
      exact ⟨rfl, hb⟩
    | false =>
      go_enter Tryd.func34, Tryd.ntmps34
      go_wp2_with fail
      go_fit (unhide E _)
      rintro r w1 ⟨rfl, hb⟩
      go_wp2_with fail
      go_ret2
      exact ⟨rfl, hb⟩

theorem l06Signed_yes (s : ByteArray) (z : Int) (h : isNum s.data.toList z) (w : World) :
    Calls Tryd.prog 34 #[.string s] w fun r w' => r = .returned (.tuple #[.int .i64 z, .bool true]) ∧ Below w.heap.size w w' := by
  by_cases hz : 0 ≤ z
  · have hd := isNum_dec h hz
    refine signed_dec s z ?_ (.bool true) w (fun w => ?_)
    · rintro ⟨_, hs0, h45⟩
      have := (isDec_val hd).2 s[0] (by rw [first6 hs0]; exact List.mem_cons_self)
      omega
    · have := specReadDec_yes s z.toNat hd w
      rw [show ((z.toNat : Nat) : Int) = z by omega] at this
      exact this
  · obtain ⟨t, ht, hd⟩ := isNum_neg h (by omega)
    have hlen : s.size = t.length + 1 := by have : s.data.toList.length = s.size := by rw [Array.length_toList]; rfl
                                            rw [← this, ht]; rfl
    have htl : 0 < t.length := by
      rw [hd.2]
      have := (decV_digits (-z).toNat).2.2
      rw [itoa_pos (-z).toNat (by omega)]
      unfold dd
      rw [if_neg (by omega)]
      exact List.length_pos_iff.2 this
    have hs0 : 0 < s.size := by omega
    have hf := first6 hs0
    rw [ht] at hf
    have h45 : s[0].toNat = 45 := by have := (List.cons.inj hf).1; rw [← this]; rfl
    have htail : (s.extract 1 s.size).data.toList = t := by rw [tail6, ht]; rfl
    have := signed_neg s (-z).toNat true hd.1 (by omega) hs0 h45 w (fun w => specReadDec_yes _ _ (by rw [htail]; exact hd) w)
    rw [show -(((-z).toNat : Nat) : Int) = z by omega, decide_eq_true (show 0 < (-z).toNat by omega)] at this
    exact this
theorem l06Signed_no (s : ByteArray) (h : ∀ z, ¬ isNum s.data.toList z) (w : World) :
    Calls Tryd.prog 34 #[.string s] w fun r w' => r = .returned (.tuple #[.int .i64 0, .bool false]) ∧ Below w.heap.size w w' := by
  by_cases hm : 1 < s.size ∧ ∃ h : 0 < s.size, s[0].toNat = 45
  · obtain ⟨h1, hs0, h45⟩ := hm
    have hf := first6 hs0
    have e45 : s[0] = 45 := UInt8.toNat_inj.1 h45
    by_cases hd : ∃ m, isDec (s.extract 1 s.size).data.toList m
    · obtain ⟨m, hm⟩ := hd
      have hm0 : ¬ 0 < m := fun h0 => h (-(m : Int)) (by rw [hf, e45, ← tail6]; exact isNum_of_neg hm h0)
      obtain rfl : m = 0 := by omega
      exact signed_neg s 0 true (by omega) h1 hs0 h45 w (fun w => specReadDec_yes _ _ hm w)
    · exact signed_neg s 0 false (by omega) h1 hs0 h45 w (fun w => specReadDec_no _ (fun m hm => hd ⟨m, hm⟩) w)
  · exact signed_dec s 0 hm (.bool false) w (fun w => specReadDec_no s (fun m hm => h _ (isNum_pos hm)) w)
/-- What it answers, whatever the text. -/
theorem l06Signed_some (s : ByteArray) : ∃ (z : Int) (ok : Bool), -1000000000 ≤ z ∧ z ≤ 1000000000 ∧ ∀ w, Calls Tryd.prog 34 #[.string s] w fun r w' => r = .returned (.tuple #[.int .i64 z, .bool ok]) ∧ Below w.heap.size w w' := by
  by_cases h : ∃ z, isNum s.data.toList z
  · obtain ⟨z, hz⟩ := h
    exact ⟨z, true, hz.1, hz.2.1, l06Signed_yes s z hz⟩
  · exact ⟨0, false, by omega, by omega, l06Signed_no s (fun z hz => h ⟨z, hz⟩)⟩
end Go.Proofs.YtkhacppaemilgaaDoor
