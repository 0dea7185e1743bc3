/-
  The walks of the specification's chapter 2.
-/
import Derived.Test.YthnekolphepncaaDoorBase
import Derived.Test.YthnekolphepncaaDoorSums
import Derived.Laws.BitsAllLaws
import Derived.Deep.QuietTactic
import Derived.BigQuiet
import Derived.Deep.RegionHeld3
import Derived.Test.YthnekolphepncaaDoorKit2
namespace Go.Proofs.YthnekolphepncaaDoor
open Go.RowKit

theorem ret_u32 {a b : Int} (h : a = b) : Ending.returned (.int .u32 a) = .returned (.int .u32 b) := by rw [h]

set_option maxHeartbeats 1000000 in
set_option maxRecDepth 100000 in
theorem specSumMore_any (s0 : Nat) (hs0 : s0 < 4294967296) (s : ByteArray) (hs : s.size ≤ 1048576) (w : World) :
    Calls Tryd.prog 15 #[.int .u32 (s0 : Int), .string s] w fun e w' => e = .returned (.int .u32 (sumN s0 s.data.toList : Int)) ∧ w' = w := by
  go_enter Tryd.func15, Tryd.ntmps15
  go_wp2
  go_loop [0, 5] (fun t i => ∃ (k x : Nat), k ≤ s.size ∧ i = .int .i64 k ∧ t = .int .u32 (x : Int) ∧ x < 4294967296 ∧ Hid (x = sumN s0 (s.data.toList.take k))) (fun _ i => s.size - (intOf i).toNat)
  case atStart => exact ⟨0, s0, by omega, rfl, rfl, hs0, rfl⟩
  case round =>
    obtain ⟨k, x, hk, rfl, rfl, hx, HX⟩ := hrel
    by_cases hlt : k < s.size
    · have hb : s[k].toNat < 256 := s[k].toNat_lt
      have hxor := u32_xor_nat x s[k].toNat hx (by omega)
      have hlx : x ^^^ s[k].toNat < 4294967296 := xor_lt hx (by omega)
      obtain ⟨y, hy⟩ : ∃ y, y = x ^^^ s[k].toNat := ⟨_, rfl⟩
      rw [← hy] at hxor hlx
      have HN : Hid (stepsN 8 y = sumN s0 (s.data.toList.take (k + 1))) := by unfold Hid; rw [sumN_at s0 s k hlt, ← unhide HX, hy]; rfl
      clear hy
      go_wp2
      go_loop [0, 6] (fun t i => ∃ (j z : Nat), j ≤ 8 ∧ i = .int .i64 j ∧ t = .int .u32 (z : Int) ∧ z < 4294967296 ∧ Hid (stepsN (8 - j) z = stepsN 8 y)) (fun _ i => 8 - (intOf i).toNat)
      case atStart => exact ⟨0, y, by omega, rfl, rfl, hlx, rfl⟩
      case round =>
        obtain ⟨j, z, hj, rfl, rfl, hz, HZ⟩ := hrel
        by_cases hj8 : j < 8
        · have hsn := stepN_lt hz
          have HS : Hid (stepsN (8 - (j + 1)) (stepN z) = stepsN 8 y) := by
            unfold Hid; rw [← unhide HZ, show 8 - j = (8 - (j + 1)) + 1 by omega]; rfl
          by_cases hodd : z % 2 = 1
          · have ho : ((z : Int) % 2 == 1) = true := beq_iff_eq.2 (by omega)
            have hxz : bits .xor .u32 ((z : Int) / 2) 3558460437 = ((stepN z : Nat) : Int) := by
              have := u32_xor_nat (z / 2) 3558460437 (by omega) (by decide)
              unfold stepN
              rw [if_pos hodd]
              simpa using this
            clear hodd
            go_wp2
            go_round
            case rel => exact ⟨j + 1, stepN z, by omega, by go_num, rfl, hsn, HS⟩
            case measure => simp [intOf]; omega
          · have ho : ((z : Int) % 2 == 1) = false := beq_eq_false_iff_ne.2 (by omega)
            have HE : Hid (((z / 2 : Nat) : Int) = ((stepN z : Nat) : Int)) := by unfold Hid stepN; rw [if_neg hodd]
            clear hodd
            go_wp2
            go_round
            case rel => exact ⟨j + 1, stepN z, by omega, by go_num, by rw [← unhide HE]; go_num, hsn, HS⟩
            case measure => simp [intOf]; omega
        · have hje : j = 8 := by omega
          have HZ' : Hid (z = sumN s0 (s.data.toList.take (k + 1))) := by unfold Hid; have := unhide HZ; rw [hje] at this; rw [← unhide HN, ← this]; rfl
          clear hje
          go_wp2
          go_round
          case rel => exact ⟨k + 1, z, by omega, by go_num, rfl, hz, HZ'⟩
          case measure => simp [intOf]; omega
    · have HE : Hid (x = sumN s0 s.data.toList) := by unfold Hid; rw [unhide HX, List.take_of_length_le (by show s.size ≤ k; omega)]
      go_wp2
      go_ret
      exact ⟨ret_u32 (by rw [← unhide HE]), rfl⟩

theorem specSumOf_any (s : ByteArray) (hs : s.size ≤ 1048576) (w : World) :
    Calls Tryd.prog 16 #[.string s] w fun e w' => e = .returned (.int .u32 (sumN 4294967295 s.data.toList : Int)) ∧ w' = w := by
  go_enter Tryd.func16, Tryd.ntmps16
  go_wp2_with (go_at_call 15; go_must (refine (specSumMore_any 4294967295 (by decide) s hs _).mono ?_); rintro e w1 ⟨rfl, rfl⟩)
  go_ret
  exact ⟨rfl, rfl⟩

theorem four_cells (x : Nat) (hx : x < 4294967296) : #[Value.int .u8 ((x : Int) / 16777216), Value.int .u8 ((x : Int) / 65536 % 256), Value.int .u8 ((x : Int) / 256 % 256), Value.int .u8 ((x : Int) % 256)].toList = (fourL x).map Bv := by
  have e : ∀ n : Nat, ((UInt8.ofNat n).toNat : Int) = ((n % 256 : Nat) : Int) := fun n => by rw [UInt8.toNat_ofNat']
  simp only [fourL, List.map, Bv, e]
  have h1 : (x : Int) / 16777216 = ((x / 16777216 % 256 : Nat) : Int) := by omega
  have h2 : (x : Int) / 65536 % 256 = ((x / 65536 % 256 : Nat) : Int) := by omega
  have h3 : (x : Int) / 256 % 256 = ((x / 256 % 256 : Nat) : Int) := by omega
  have h4 : (x : Int) % 256 = ((x % 256 : Nat) : Int) := by omega
  rw [h1, h2, h3, h4]

/-- Bytes that were laid in a new block, as a text. -/
theorem run_new_bytes (w : World) (cs : Array Value) (l : List UInt8) (n : Nat) (hn : n = l.length) (hl : l.length ≤ 1048576) (h : cs.toList = l.map Bv) :
    (convert 22 9 (.slice (some ⟨w.heap.size, 0, none⟩) n n)).run Tryd.prog (w.alloc (.cells cs 5)) = .ok (.string ⟨l.toArray⟩) (w.alloc (.cells cs 5)) := by
  subst hn
  have ho := World.ownsRow_lit (base := 0) (e := 5) (size := 1) w cs l.length (Nat.zero_le _) (by unfold maxLen; omega) (by rw [← Array.length_toList, h, List.length_map]; omega)
  rw [h] at ho
  exact run_string_owned Tryd.underlying22 Tryd.underlying5 Tryd.underlying9 ho

set_option maxHeartbeats 1000000 in
theorem l02Four_any (x : Nat) (hx : x < 4294967296) (w : World) :
    Calls Tryd.prog 26 #[.int .u32 (x : Int)] w fun e w' => e = .returned (.string ⟨(fourL x).toArray⟩) ∧ Below w.heap.size w w' := by
  have hcv := run_new_bytes w _ (fourL x) 4 rfl (by rw [fourL_len]; decide) (four_cells x hx)
  go_enter Tryd.func26, Tryd.ntmps26
  go_wp2
  go_ret
  exact ⟨rfl, (Below.refl _ _).alloc (Nat.le_refl _) _⟩

theorem ret_sb' {a b : ByteArray} {c d : Bool} (h : a = b) (k : c = d) : Ending.returned (.tuple #[.string a, .bool c]) = .returned (.tuple #[.string b, .bool d]) := by rw [h, k]

theorem seal_bytes (s : ByteArray) : s ++ ⟨(fourL (sumN 4294967295 s.data.toList)).toArray⟩ = ⟨(sealL s.data.toList).toArray⟩ := by
  apply ByteArray.ext
  apply Array.toList_inj.1
  simp [sealL]

theorem specSealed_yes (s : ByteArray) (hs : s.size ≤ 20000) (w : World) :
    Calls Tryd.prog 17 #[.string s] w fun e w' => e = .returned (.tuple #[.string ⟨(sealL s.data.toList).toArray⟩, .bool true]) ∧ Below w.heap.size w w' := by
  have hsum := sumN_lt (s := 4294967295) (by decide) s.data.toList
  have hadd : ∀ w, (Op.stringOp .add s ⟨(fourL (sumN 4294967295 s.data.toList)).toArray⟩).run Tryd.prog w = .ok (.string (s ++ ⟨(fourL (sumN 4294967295 s.data.toList)).toArray⟩)) w := fun w => run_string_add_sum w _ _ (by have : (⟨(fourL (sumN 4294967295 s.data.toList)).toArray⟩ : ByteArray).size = 4 := rfl; omega)
  go_enter Tryd.func17, Tryd.ntmps17
  go_wp2_with (first | (go_at_call 16; go_must (refine (specSumOf_any s (by omega) _).mono ?_); rintro e w1 ⟨rfl, rfl⟩) | (go_at_call 26; go_must (refine (l02Four_any _ hsum _).mono ?_); rintro e w2 ⟨rfl, hb⟩))
  go_ret2
  exact ⟨ret_sb' (seal_bytes s) rfl, hb⟩

theorem specSealed_no (s : ByteArray) (hs : ¬ s.size ≤ 20000) (w : World) :
    Calls Tryd.prog 17 #[.string s] w fun e w' => e = .returned (.tuple #[.string ⟨#[]⟩, .bool false]) ∧ Below w.heap.size w w' := by
  have h : (20000 : Int) < s.size := by omega
  go_enter Tryd.func17, Tryd.ntmps17
  go_wp2
  go_ret2
  exact ⟨rfl, Below.refl _ _⟩

theorem run_tail (s : ByteArray) (m : Nat) (hm : m ≤ s.size) (w : World) (n : Int) (hn : n = (m : Int)) :
    (Instr.slice 9 (.string s) (some (.int .i64 n)) none none).run Tryd.prog w = .ok (.string ⟨(s.data.toList.drop m).toArray⟩) w := by
  subst hn
  rw [run_slice_string_from_if w 9 s .i64 m Tryd.underlying9, if_pos ⟨by omega, by omega⟩]
  congr 2
  apply ByteArray.ext
  apply Array.toList_inj.1
  have hl : s.data.toList.length = s.size := rfl
  simp [ByteArray.data_extract]
  exact List.take_of_length_le (by rw [List.length_drop, hl]; exact Nat.le_refl _)
theorem run_head (s : ByteArray) (m : Nat) (hm : m ≤ s.size) (w : World) (n : Int) (hn : n = (m : Int)) :
    (Instr.slice 9 (.string s) none (some (.int .i64 n)) none).run Tryd.prog w = .ok (.string ⟨(s.data.toList.take m).toArray⟩) w := by
  subst hn
  rw [run_slice_string_to_if w 9 s .i64 m Tryd.underlying9, if_pos ⟨by omega, by omega⟩]
  congr 2
  apply ByteArray.ext
  apply Array.toList_inj.1
  simp [ByteArray.data_extract]

theorem unseal_no {s : ByteArray} (h : s.size < 4 ∨ 20004 < s.size) : unsealL s.data.toList = none := by
  have hl : s.data.toList.length = s.size := rfl
  unfold unsealL
  rw [if_neg]
  rw [hl]
  omega

/-- What Unsealed answers. -/
def usA (s : ByteArray) : List UInt8 := (unsealL s.data.toList).getD []
def usB (s : ByteArray) : Bool := (unsealL s.data.toList).isSome
theorem us_none {s : ByteArray} (h : unsealL s.data.toList = none) : [] = usA s ∧ false = usB s := by simp [usA, usB, h]
theorem us_some {s : ByteArray} {l : List UInt8} (h : unsealL s.data.toList = some l) : l = usA s ∧ true = usB s := by simp [usA, usB, h]

set_option maxHeartbeats 1000000 in
set_option maxRecDepth 100000 in
theorem specUnsealed_any (s : ByteArray) (hs : s.size ≤ 1048576) (w : World) :
    Calls Tryd.prog 18 #[.string s] w fun e w' => e = .returned (.tuple #[.string ⟨(usA s).toArray⟩, .bool (usB s)]) ∧ Below w.heap.size w w' := by
  have hl : s.data.toList.length = s.size := rfl
  by_cases h4 : s.size < 4
  · have H := hide (us_none (unseal_no (.inl h4)))
    have hd : decide ((s.size : Int) - 4 < 0) = true := by simp; omega
    clear hl
    go_enter Tryd.func18, Tryd.ntmps18
    go_wp2
    go_quiet (fail)
    go_wp2
    go_ret2
    exact ⟨ret_str_ok (unhide H).1 (unhide H).2, below_drews (Below.refl _ _) _⟩
  have hd1 : decide ((s.size : Int) - 4 < 0) = false := by simp; omega
  by_cases hbig : 20004 < s.size
  · have H := hide (us_none (unseal_no (.inr hbig)))
    have hd2 : decide (20000 < (s.size : Int) - 4) = true := by simp; omega
    clear hl
    go_enter Tryd.func18, Tryd.ntmps18
    go_wp2
    go_quiet (fail)
    go_wp2
    go_ret2
    exact ⟨ret_str_ok (unhide H).1 (unhide H).2, below_drews (Below.refl _ _) _⟩
  have hd2 : decide (20000 < (s.size : Int) - 4) = false := by simp; omega
  have ht := fun w => run_tail s (s.size - 4) (by omega) w ((s.size : Int) - 4) (by omega)
  have hh := fun w => run_head s (s.size - 4) (by omega) w ((s.size : Int) - 4) (by omega)
  obtain ⟨T, hT⟩ : ∃ T, T = s.data.toList.take (s.size - 4) := ⟨_, rfl⟩
  obtain ⟨D, hD⟩ : ∃ D, D = s.data.toList.drop (s.size - 4) := ⟨_, rfl⟩
  rw [← hD] at ht
  rw [← hT] at hh
  have hTl : T.length ≤ 20000 := by rw [hT, List.length_take, hl]; omega
  have hsum := sumN_lt (s := 4294967295) (by decide) T
  have HS : Hid (∀ w, Calls Tryd.prog 16 #[.string ⟨T.toArray⟩] w fun e w' => e = .returned (.int .u32 (sumN 4294967295 T : Int)) ∧ w' = w) := fun w => specSumOf_any ⟨T.toArray⟩ (by show T.toArray.size ≤ _; simp; omega) w
  have hu : unsealL s.data.toList = if D = fourL (sumN 4294967295 T) then some T else none := by
    unfold unsealL
    rw [hl, ← hT, ← hD]
    by_cases hc : D = fourL (sumN 4294967295 T)
    · rw [if_pos hc, if_pos ⟨by omega, by omega, hc⟩]
    · rw [if_neg hc, if_neg (fun h => hc h.2.2)]
  by_cases hc : D = fourL (sumN 4294967295 T)
  · have hcb : (D == fourL (sumN 4294967295 T)) = true := beq_iff_eq.2 hc
    rw [if_pos hc] at hu
    have H := hide (us_some hu)
    clear hu hT hD hc hl
    go_enter Tryd.func18, Tryd.ntmps18
    go_wp2
    go_region_held3 (fun _ => True) (exact trivial) (first | (go_at_call 16; refine (unhide HS _).mono ?_; rintro e w1 ⟨rfl, rfl⟩) | (go_at_call 26; refine (l02Four_any _ hsum _).mono ?_; rintro e w2 ⟨rfl, hb⟩))
    all_goals
      go_wp2
      go_ret2
      exact ⟨ret_str_ok (unhide H).1 (unhide H).2, below_undrew hb⟩
  · have hcb : (D == fourL (sumN 4294967295 T)) = false := beq_eq_false_iff_ne.2 hc
    rw [if_neg hc] at hu
    have H := hide (us_none hu)
    clear hu hT hD hc hl
    go_enter Tryd.func18, Tryd.ntmps18
    go_wp2
    go_region_held3 (fun _ => True) (exact trivial) (first | (go_at_call 16; refine (unhide HS _).mono ?_; rintro e w1 ⟨rfl, rfl⟩) | (go_at_call 26; refine (l02Four_any _ hsum _).mono ?_; rintro e w2 ⟨rfl, hb⟩))
    all_goals
      go_wp2
      go_ret2
      exact ⟨ret_str_ok (unhide H).1 (unhide H).2, below_undrew hb⟩
end Go.Proofs.YthnekolphepncaaDoor
