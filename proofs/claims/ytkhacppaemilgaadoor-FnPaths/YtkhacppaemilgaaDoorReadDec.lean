/-
  The walks of ReadDecimal and of its law.
-/
import Derived.Test.YtkhacppaemilgaaDoorDecW
namespace Go.Proofs.YtkhacppaemilgaaDoor
open Go.RowKit

theorem ret_ib {a b : Int} {c d : Bool} (h : a = b) (k : c = d) : Ending.returned (.tuple #[.int .i64 a, .bool c]) = .returned (.tuple #[.int .i64 b, .bool d]) := by rw [h, k]

theorem take_at (s : ByteArray) (k : Nat) (h : k < s.size) : s.data.toList.take (k + 1) = s.data.toList.take k ++ [s[k]] := by
  rw [take_snoc' _ k (by simpa using h)]
  rfl

theorem decV_at (s : ByteArray) (k : Nat) (h : k < s.size) : decV (s.data.toList.take (k + 1)) = decV (s.data.toList.take k) * 10 + (s[k].toNat - 48) := by
  rw [take_at s k h, decV_snoc]

theorem decV_pre {l : List UInt8} {m : Nat} (h : isDec l m) (k : Nat) : decV (l.take k) ≤ m := by
  have := decV_mono (l.take k) (l.drop k)
  rw [List.take_append_drop, (isDec_val h).1] at this
  exact this

theorem notDec_byte {s : ByteArray} {k : Nat} (hk : k < s.size) (hb : ¬ (48 ≤ s[k].toNat ∧ s[k].toNat ≤ 57)) (m : Nat) : ¬ isDec s.data.toList m := fun h =>
  hb ((isDec_val h).2 _ (by have : s[k] = s.data.toList[k]'(by simpa using hk) := rfl; rw [this]; exact List.getElem_mem _))

theorem itoa_len10 {m : Nat} (h : m ≤ 1000000000) : (Lib.itoa (m : Int)).length ≤ 10 := by
  by_cases h0 : m = 0
  · subst h0; rw [show ((0 : Nat) : Int) = 0 from rfl, itoa_zero]; simp
  · rw [itoa_pos m h0]
    have : ∀ (f u : Nat), u < 10 ^ f → (dd u).length ≤ f := by
      intro f
      induction f with
      | zero => intro u hu; have : u = 0 := by omega
                subst this; simp [dd_zero]
      | succ f ih =>
        intro u hu
        by_cases hz : u = 0
        · subst hz; simp [dd_zero]
        · rw [dd_step hz, List.length_append]
          have := ih (u / 10) (by rw [Nat.pow_succ] at hu; omega)
          simp; omega
    exact this 10 m (by omega)

/-- What ReadDecimal answers, where l is the numeral of m. -/
theorem isDec_unique {l : List UInt8} {m k : Nat} (h : isDec l m) (h' : isDec l k) : m = k := by rw [← (isDec_val h).1, (isDec_val h').1]

theorem isDec_of {s : ByteArray} {v : Nat} (hv : v ≤ 1000000000) (h : (Lib.itoa (v : Int) == s.toList) = true) : isDec s.data.toList v := by
  refine ⟨hv, ?_⟩
  have := beq_iff_eq.1 h
  rw [this, ByteArray.toList_eq]

theorem not_isDec_of {s : ByteArray} {v m : Nat} (hm : isDec s.data.toList m) (hv : v = m) : (Lib.itoa (v : Int) == s.toList) = true := by
  rw [beq_iff_eq, ByteArray.toList_eq, hv]
  exact hm.2.symm

set_option maxHeartbeats 1000000 in
theorem specReadDec_yes (s : ByteArray) (m : Nat) (h : isDec s.data.toList m) (w : World) :
    Calls Tryd.prog 55 #[.string s] w fun e w' => e = .returned (.tuple #[.int .i64 (m : Int), .bool true]) ∧ Below w.heap.size w w' := by
  have hl : s.size ≤ 10 := by
    have := itoa_len10 h.1
    rw [← h.2] at this
    exact this
  have hm := h.1
  have H := hide h
  clear h
  go_enter Tryd.func55, Tryd.ntmps55
  go_wp2
  go_loop [4, 5] (fun n i => ∃ k v : Nat, k ≤ s.size ∧ i = .int .i64 k ∧ n = .int .i64 v ∧ v ≤ 1000000000 ∧ Hid (v = decV (s.data.toList.take k))) (fun _ i => s.size - (intOf i).toNat)
  case atStart => exact ⟨0, 0, Nat.zero_le _, rfl, rfl, by omega, by unfold Hid; rfl⟩
  case round =>
    obtain ⟨k, v, hk, rfl, rfl, hv, HV⟩ := hrel
    by_cases hlt : k < s.size
    · have hb : 48 ≤ s[k].toNat ∧ s[k].toNat ≤ 57 := by
        by_cases hc : 48 ≤ s[k].toNat ∧ s[k].toNat ≤ 57
        · exact hc
        · exact absurd (unhide H) (notDec_byte hlt hc m)
      obtain ⟨b1, b2⟩ := hb
      have HN : Hid (v * 10 + (s[k].toNat - 48) = decV (s.data.toList.take (k + 1))) := by unfold Hid; rw [decV_at s k hlt, ← unhide HV]
      have hle : v * 10 + (s[k].toNat - 48) ≤ 1000000000 := by rw [unhide HN]; exact Nat.le_trans (decV_pre (unhide H) _) hm
      go_wp2
      go_round
      case rel => exact ⟨k + 1, v * 10 + (s[k].toNat - 48), by omega, by go_num, by go_num, hle, HN⟩
      case measure => simp [intOf]; omega
    · have hvm : v = m := by rw [unhide HV, List.take_of_length_le (by show s.size ≤ k; omega)]; exact (isDec_val (unhide H)).1
      subst hvm
      have hc := not_isDec_of (unhide H) rfl
      go_wp2_with (go_at_call 52; go_must (refine (specDecimal_any _ (by omega) (by omega) _).mono ?_); rintro e w1 ⟨rfl, hb1⟩)
      go_ret2
      exact ⟨rfl, hb1⟩

def t10 : Nat → Nat
  | 0 => 1
  | k + 1 => 10 * t10 k
theorem t10_le (k : Nat) (h : k ≤ 10) : t10 k ≤ 10000000000 := by
  match k, h with
  | 0, _ => decide
  | 1, _ => decide
  | 2, _ => decide
  | 3, _ => decide
  | 4, _ => decide
  | 5, _ => decide
  | 6, _ => decide
  | 7, _ => decide
  | 8, _ => decide
  | 9, _ => decide
  | 10, _ => decide

theorem no_itoa {s : ByteArray} (h : ∀ m, ¬ isDec s.data.toList m) {v : Nat} (hv : v ≤ 1000000000) : (Lib.itoa (v : Int) == s.toList) = false := by
  cases hc : (Lib.itoa (v : Int) == s.toList) with
  | false => rfl
  | true => exact absurd (isDec_of hv hc) (h v)

set_option maxHeartbeats 1000000 in
theorem specReadDec_no (s : ByteArray) (h : ∀ m, ¬ isDec s.data.toList m) (w : World) :
    Calls Tryd.prog 55 #[.string s] w fun e w' => e = .returned (.tuple #[.int .i64 0, .bool false]) ∧ Below w.heap.size w w' := by
  have H := hide h
  clear h
  by_cases hl : 10 < s.size
  · go_enter Tryd.func55, Tryd.ntmps55
    go_wp2
    go_ret2
    exact ⟨rfl, Below.refl _ _⟩
  · have hl' : (s.size : Int) ≤ 10 := by omega
    go_enter Tryd.func55, Tryd.ntmps55
    go_wp2
    go_loop [4, 5] (fun n i => ∃ k v : Nat, k ≤ s.size ∧ i = .int .i64 k ∧ n = .int .i64 v ∧ v ≤ 10000000000 ∧ Hid (v < t10 k)) (fun _ i => s.size - (intOf i).toNat)
    case atStart => exact ⟨0, 0, Nat.zero_le _, rfl, rfl, by omega, by unfold Hid; decide⟩
    case round =>
      obtain ⟨k, v, hk, rfl, rfl, hv, HV⟩ := hrel
      by_cases hlt : k < s.size
      · by_cases hb : 48 ≤ s[k].toNat ∧ s[k].toNat ≤ 57
        · obtain ⟨b1, b2⟩ := hb
          have HN : Hid (v * 10 + (s[k].toNat - 48) < t10 (k + 1)) := by unfold Hid; have := unhide HV; simp only [t10]; omega
          have hle : v * 10 + (s[k].toNat - 48) ≤ 10000000000 := by have := unhide HN; have := t10_le (k + 1) (by omega); omega
          go_wp2
          go_round
          case rel => exact ⟨k + 1, v * 10 + (s[k].toNat - 48), by omega, by go_num, by go_num, hle, HN⟩
          case measure => simp [intOf]; omega
        · by_cases b1 : s[k].toNat < 48
          · clear hb
            go_wp2
            go_ret2
            exact ⟨rfl, Below.refl _ _⟩
          · have b2 : 57 < s[k].toNat := by omega
            clear hb
            go_wp2
            go_ret2
            exact ⟨rfl, Below.refl _ _⟩
      · by_cases hbig : 1000000000 < v
        · go_wp2
          go_ret2
          exact ⟨rfl, Below.refl _ _⟩
        · have hc := no_itoa (unhide H) (v := v) (by omega)
          go_wp2_with (go_at_call 52; go_must (refine (specDecimal_any _ (by omega) (by omega) _).mono ?_); rintro e w1 ⟨rfl, hb1⟩)
          go_ret2
          exact ⟨rfl, hb1⟩

set_option maxHeartbeats 1000000 in
theorem implReadDec_yes (s : ByteArray) (hs : s.size ≤ 1048576) (m : Nat) (h : isDec s.data.toList m) (w : World) (htab : Lib.TabIs Tryd.prog w "internal/strconv.uint64pow10" .u64 Lib.pow10Tab) :
    Calls Tryd.prog 69 #[.string s] w fun e w' => e = .returned (.tuple #[.int .i64 (m : Int), .bool true]) ∧ Below w.heap.size w w' := by
  have hm := h.1
  have H := hide h
  have HT := hide htab
  clear h htab
  go_enter Tryd.func69, Tryd.ntmps69
  go_wp2
  go_step3
  go_wp2
  go_step3
  go_wp2
  go_loop [4, 5] (fun n i => ∃ k v : Nat, k ≤ s.size ∧ i = .int .i64 k ∧ n = .int .i64 v ∧ v ≤ 1000000000 ∧ Hid (v = decV (s.data.toList.take k))) (fun _ i => s.size - (intOf i).toNat)
  case atStart => exact ⟨0, 0, Nat.zero_le _, rfl, rfl, by omega, by unfold Hid; rfl⟩
  case round =>
    obtain ⟨k, v, hk, rfl, rfl, hv, HV⟩ := hrel
    by_cases hlt : k < s.size
    · have hb : 48 ≤ s[k].toNat ∧ s[k].toNat ≤ 57 := by
        by_cases hc : 48 ≤ s[k].toNat ∧ s[k].toNat ≤ 57
        · exact hc
        · exact absurd (unhide H) (notDec_byte hlt hc m)
      obtain ⟨b1, b2⟩ := hb
      have HN : Hid (v * 10 + (s[k].toNat - 48) = decV (s.data.toList.take (k + 1))) := by unfold Hid; rw [decV_at s k hlt, ← unhide HV]
      have hle : v * 10 + (s[k].toNat - 48) ≤ 1000000000 := by rw [unhide HN]; exact Nat.le_trans (decV_pre (unhide H) _) hm
      go_wp2
      go_round
      case rel => exact ⟨k + 1, v * 10 + (s[k].toNat - 48), by omega, by go_num, by go_num, hle, HN⟩
      case measure => simp [intOf]; omega
    · have hvm : v = m := by rw [unhide HV, List.take_of_length_le (by show s.size ≤ k; omega)]; exact (isDec_val (unhide H)).1
      subst hvm
      have hc := not_isDec_of (unhide H) rfl
      go_wp2_with (go_at_call 20; go_must (refine (implDecimal_any _ (by omega) (by omega) _ (unhide HT)).mono ?_); rintro e w1 ⟨rfl, hb1⟩)
      try rw [Exit.noGoto_ret]
      go_ret2
      exact ⟨rfl, hb1⟩

set_option maxHeartbeats 1000000 in
theorem implReadDec_no (s : ByteArray) (hs : s.size ≤ 1048576) (h : ∀ m, ¬ isDec s.data.toList m) (w : World) (htab : Lib.TabIs Tryd.prog w "internal/strconv.uint64pow10" .u64 Lib.pow10Tab) :
    Calls Tryd.prog 69 #[.string s] w fun e w' => e = .returned (.tuple #[.int .i64 0, .bool false]) ∧ Below w.heap.size w w' := by
  have H := hide h
  have HT := hide htab
  clear h htab
  go_enter Tryd.func69, Tryd.ntmps69
  go_wp2
  go_step3
  go_wp2
  go_step3
  go_wp2
  go_loop [4, 5] (fun n i => ∃ k v : Nat, k ≤ s.size ∧ i = .int .i64 k ∧ n = .int .i64 v ∧ v ≤ 10000000009) (fun _ i => s.size - (intOf i).toNat)
  case atStart => exact ⟨0, 0, Nat.zero_le _, rfl, rfl, by omega⟩
  case round =>
    obtain ⟨k, v, hk, rfl, rfl, hv⟩ := hrel
    by_cases hbig : 1000000000 < v
    · by_cases hlt : k < s.size
      · have hb0 : s[k].toNat < 256 := s[k].toNat_lt
        by_cases b1 : s[k].toNat < 48
        · go_wp2
          try rw [Exit.noGoto_ret]
          go_ret2
          exact ⟨rfl, Below.refl _ _⟩
        · by_cases b2 : 57 < s[k].toNat
          · go_wp2
            try rw [Exit.noGoto_ret]
            go_ret2
            exact ⟨rfl, Below.refl _ _⟩
          · go_wp2
            try rw [Exit.noGoto_ret]
            go_ret2
            exact ⟨rfl, Below.refl _ _⟩
      · go_wp2
        try rw [Exit.noGoto_ret]
        go_ret2
        exact ⟨rfl, Below.refl _ _⟩
    · have hc := no_itoa (unhide H) (v := v) (by omega)
      by_cases hlt : k < s.size
      · have hb0 : s[k].toNat < 256 := s[k].toNat_lt
        by_cases b1 : s[k].toNat < 48
        · go_wp2_with (go_at_call 20; go_must (refine (implDecimal_any _ (by omega) (by omega) _ (unhide HT)).mono ?_); rintro e w1 ⟨rfl, hb1⟩)
          try rw [Exit.noGoto_ret]
          go_ret2
          exact ⟨rfl, hb1⟩
        · by_cases b2 : 57 < s[k].toNat
          · go_wp2_with (go_at_call 20; go_must (refine (implDecimal_any _ (by omega) (by omega) _ (unhide HT)).mono ?_); rintro e w1 ⟨rfl, hb1⟩)
            try rw [Exit.noGoto_ret]
            go_ret2
            exact ⟨rfl, hb1⟩
          · go_wp2
            go_round
            case rel => exact ⟨k + 1, v * 10 + (s[k].toNat - 48), by omega, by go_num, by go_num, by omega⟩
            case measure => simp [intOf]; omega
      · go_wp2_with (go_at_call 20; go_must (refine (implDecimal_any _ (by omega) (by omega) _ (unhide HT)).mono ?_); rintro e w1 ⟨rfl, hb1⟩)
        try rw [Exit.noGoto_ret]
        go_ret2
        exact ⟨rfl, hb1⟩

end Go.Proofs.YtkhacppaemilgaaDoor
