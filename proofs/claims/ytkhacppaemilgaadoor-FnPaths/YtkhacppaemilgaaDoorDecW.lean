/-
  The walks of Decimal, the program's and the specification's.
-/
import Derived.Test.YtkhacppaemilgaaDoorFigure
import Derived.Test.YtkhacppaemilgaaDoorDecs
import Derived.Test.YtkhacppaemilgaaDoorShelf
import Derived.WalkSmall
import Derived.OpenShut
import Derived.Lib.AppendIntMem
namespace Go.Proofs.YtkhacppaemilgaaDoor
open Go.RowKit

/-- One byte as a text. -/
theorem run_one_byte (w : World) (b : UInt8) (X : List UInt8) (hX : X = [b]) (q : Int) (hq : q = (b.toNat : Int)) :
    (convert 22 9 (.slice (some ⟨w.heap.size, 0, none⟩) 1 1)).run Tryd.prog (w.alloc (.cells #[.int .u8 q] 5)) = .ok (.string ⟨X.toArray⟩) (w.alloc (.cells #[.int .u8 q] 5)) := by
  subst hX hq
  exact run_string_owned (base := 0) (n := 1) Tryd.underlying22 Tryd.underlying5 Tryd.underlying9 (World.ownsRow_lit w #[.int .u8 (b.toNat : Int)] 1 (Nat.zero_le _) (by decide) rfl)

set_option maxRecDepth 100000 in
set_option maxHeartbeats 1000000 in
theorem specDecimal_pos (u : Nat) (h0 : u ≠ 0) (h1 : u ≤ 9223372036854775807) (w : World) :
    Calls Tryd.prog 52 #[.int .i64 u] w fun e w' => e = .returned (.string ⟨(dd u).toArray⟩) ∧ Below w.heap.size w w' := by
  have hne : ((u : Int) == 0) = false := beq_eq_false_iff_ne.2 (by omega)
  have hlen := dd_len u (by omega)
  go_enter Tryd.func52, Tryd.ntmps52
  go_wp2
  go_loopw [0, 4] (fun t s wr => ∃ (m : Nat) (l : List UInt8), t = .int .i64 m ∧ s = .string ⟨l.toArray⟩ ∧ m ≤ 9223372036854775807 ∧ l.length ≤ 21 ∧ Hid (dd m ++ l = dd u) ∧ Below w.heap.size w wr) (fun t _ _ => (intOf t).toNat)
  case atStart => exact ⟨u, [], rfl, rfl, h1, by simp, by unfold Hid; simp, Below.refl _ _⟩
  case round =>
    obtain ⟨m, l, rfl, rfl, hm, hl, HD, hnx⟩ := hrel
    by_cases hz : m = 0
    · have HE : Hid (l = dd u) := by unfold Hid; have := unhide HD; rw [hz, dd_zero] at this; simpa using this
      have hz' : ((m : Int) != 0) = false := by rw [hz]; rfl
      clear hz
      go_wp2
      go_ret
      exact ⟨ret_str (unhide HE), hnx⟩
    · have hz' : ((m : Int) != 0) = true := by rw [bne_iff_ne]; omega
      have hd0 : (0 : Int) ≤ (m : Int) % 10 := by omega
      have hd1 : (m : Int) % 10 < 16 := by omega
      obtain ⟨X, hX⟩ : ∃ X : List UInt8, X = [hexd (m % 10)] := ⟨_, rfl⟩
      have hXl : X.length = 1 := by rw [hX]; rfl
      have HX : Hid (X = [hexd (m % 10)]) := hX
      have hcv := run_one_byte wr _ X hX _ rfl
      have hadd : ∀ w, (Op.stringOp .add ⟨X.toArray⟩ ⟨l.toArray⟩).run Tryd.prog w = .ok (.string ⟨(X ++ l).toArray⟩) w := fun w => run_string_add_lists w X l (by omega) (by omega)
      have HN : Hid (dd (m / 10) ++ (X ++ l) = dd u) := by
        unfold Hid; rw [← unhide HD, dd_step hz, unhide HX]; simp
      have HL : Hid (dd (m / 10) ++ (X ++ l) = dd u → (X ++ l).length ≤ 21) := by
        intro h; have := congrArg List.length h; rw [List.length_append] at this; omega
      clear hX hXl hz
      go_wp2_with (go_at_call 71; go_must (refine (l01Figure_any _ hd0 hd1 _).mono ?_); rintro e w' ⟨rfl, rfl⟩)
      go_roundw
      case rel => exact ⟨m / 10, X ++ l, by go_num, rfl, by omega, unhide HL (unhide HN), HN, hnx.alloc hnx.size _⟩
      case measure => simp [intOf]; have := bne_iff_ne.1 hz'; omega

theorem neg_tmod (m : Nat) : (-(m : Int)).tmod 10 = -((m : Int) % 10) := by rw [Int.neg_tmod, Int.tmod_eq_emod_of_nonneg (by omega)]
theorem neg_tdiv (m : Nat) : (-(m : Int)).tdiv 10 = -((m : Int) / 10) := by rw [Int.neg_tdiv, Int.tdiv_eq_ediv_of_nonneg (by omega)]

set_option maxRecDepth 100000 in
set_option maxHeartbeats 1000000 in
theorem specDecimal_neg (u : Nat) (h0 : u ≠ 0) (h1 : u ≤ 9223372036854775808) (w : World) :
    Calls Tryd.prog 52 #[.int .i64 (-(u : Int))] w fun e w' => e = .returned (.string ⟨(45 :: dd u).toArray⟩) ∧ Below w.heap.size w w' := by
  have hne : (-(u : Int) == 0) = false := beq_eq_false_iff_ne.2 (by omega)
  have hlt : -(u : Int) < 0 := by omega
  have hdc : decide (-(u : Int) < 0) = true := by simpa using hlt
  have hlen := dd_len u h1
  go_enter Tryd.func52, Tryd.ntmps52
  go_wp2
  go_loopw [0, 4] (fun t s wr => ∃ (m : Nat) (l : List UInt8), t = .int .i64 (-(m : Int)) ∧ s = .string ⟨l.toArray⟩ ∧ m ≤ 9223372036854775808 ∧ l.length ≤ 21 ∧ Hid (dd m ++ l = dd u) ∧ Below w.heap.size w wr) (fun t _ _ => (intOf t).natAbs)
  case atStart => exact ⟨u, [], rfl, rfl, h1, by simp, by unfold Hid; simp, Below.refl _ _⟩
  case round =>
    obtain ⟨m, l, rfl, rfl, hm, hl, HD, hnx⟩ := hrel
    by_cases hz : m = 0
    · have HE : Hid (l = dd u) := by unfold Hid; have := unhide HD; rw [hz, dd_zero] at this; simpa using this
      have hz' : (-(m : Int) != 0) = false := by rw [hz]; rfl
      have hadd : ∀ w, (Op.stringOp .add ⟨#[45]⟩ ⟨l.toArray⟩).run Tryd.prog w = .ok (.string ⟨([45] ++ l).toArray⟩) w := fun w => run_string_add_lists w [45] l (by simp) (by omega)
      clear hz
      go_wp2
      go_ret
      exact ⟨ret_str (by rw [unhide HE]), hnx⟩
    · have hz' : (-(m : Int) != 0) = true := by rw [bne_iff_ne]; omega
      have hd0 : (0 : Int) ≤ (m : Int) % 10 := by omega
      have hd1 : (m : Int) % 10 < 16 := by omega
      have ht := neg_tmod m
      have hq := neg_tdiv m
      obtain ⟨X, hX⟩ : ∃ X : List UInt8, X = [hexd (m % 10)] := ⟨_, rfl⟩
      have hXl : X.length = 1 := by rw [hX]; rfl
      have HX : Hid (X = [hexd (m % 10)]) := hX
      have hcv := run_one_byte wr _ X hX _ rfl
      have hadd : ∀ w, (Op.stringOp .add ⟨X.toArray⟩ ⟨l.toArray⟩).run Tryd.prog w = .ok (.string ⟨(X ++ l).toArray⟩) w := fun w => run_string_add_lists w X l (by omega) (by omega)
      have HN : Hid (dd (m / 10) ++ (X ++ l) = dd u) := by
        unfold Hid; rw [← unhide HD, dd_step hz, unhide HX]; simp
      have HL : Hid (dd (m / 10) ++ (X ++ l) = dd u → (X ++ l).length ≤ 21) := by
        intro h; have := congrArg List.length h; rw [List.length_append] at this; omega
      have HZ := hide hz
      clear hX hXl hz
      by_cases hr : (m : Int) % 10 = 0
      · have hnr : ¬ -((m : Int) % 10) < 0 := by omega
        have HR := hide hr
        have hneg : -((m : Int) % 10) = (m : Int) % 10 := by omega
        clear hr
        go_wp2_with (go_at_call 71; go_must (refine (l01Figure_any _ hd0 hd1 _).mono ?_); rintro e w' ⟨rfl, rfl⟩)
        go_roundw
        case rel => exact ⟨m / 10, X ++ l, by go_num, rfl, by omega, unhide HL (unhide HN), HN, hnx.alloc hnx.size _⟩
        case measure => simp [intOf]; have := unhide HZ; omega
      · have hnr : -((m : Int) % 10) < 0 := by omega
        clear hr
        go_wp2_with (go_at_call 71; go_must (refine (l01Figure_any _ hd0 hd1 _).mono ?_); rintro e w' ⟨rfl, rfl⟩)
        go_roundw
        case rel => exact ⟨m / 10, X ++ l, by go_num, rfl, by omega, unhide HL (unhide HN), HN, hnx.alloc hnx.size _⟩
        case measure => simp [intOf]; have := unhide HZ; omega

theorem specDecimal_zero (w : World) :
    Calls Tryd.prog 52 #[.int .i64 0] w fun e w' => e = .returned (.string ⟨#[48]⟩) ∧ Below w.heap.size w w' := by
  go_enter Tryd.func52, Tryd.ntmps52
  go_wp2
  go_ret
  exact ⟨rfl, Below.refl _ _⟩

theorem specDecimal_any (n : Int) (h0 : -9223372036854775808 ≤ n) (h1 : n ≤ 9223372036854775807) (w : World) :
    Calls Tryd.prog 52 #[.int .i64 n] w fun e w' => e = .returned (.string ⟨(Lib.itoa n).toArray⟩) ∧ Below w.heap.size w w' := by
  by_cases hz : n = 0
  · subst hz
    rw [itoa_zero]
    exact specDecimal_zero w
  · by_cases hn : n < 0
    · obtain ⟨u, rfl⟩ : ∃ u : Nat, n = -(u : Int) := ⟨n.natAbs, by omega⟩
      rw [itoa_neg' u (by omega)]
      exact specDecimal_neg u (by omega) (by omega) w
    · obtain ⟨u, rfl⟩ : ∃ u : Nat, n = (u : Int) := ⟨n.toNat, by omega⟩
      rw [itoa_pos u (by omega)]
      exact specDecimal_pos u (by omega) (by omega) w

theorem implDecimal_any (n : Int) (h0 : -9223372036854775808 ≤ n) (h1 : n ≤ 9223372036854775807) (w : World) (htab : Lib.TabIs Tryd.prog w "internal/strconv.uint64pow10" .u64 Lib.pow10Tab) :
    Calls Tryd.prog 20 #[.int .i64 n] w fun e w' => e = .returned (.string ⟨(Lib.itoa n).toArray⟩) ∧ Below w.heap.size w w' := by
  have H := hide htab
  clear htab
  go_enter Tryd.func20, Tryd.ntmps20
  go_wp2_with (go_at_call 43; go_must (refine (Tryd.strconv_Itoa n h0 h1 _ (unhide H)).mono ?_); rintro e w' ⟨rfl, k, os, rfl⟩)
  go_ret
  exact ⟨rfl, Lib.below_grow _ _ (Nat.le_refl _) _ _⟩

/-- A table of the library's lies as it lay. -/
theorem tab_below {w w' : World} {name : String} {k : IntKind} {zs : List Int} {g : Nat} (hg : Tryd.prog.globalNamed name = some g) (h : Lib.TabIs Tryd.prog w name k zs) (hb : Below w.heap.size w w') : Lib.TabIs Tryd.prog w' name k zs := by
  have hgs : g < w.heap.size := by
    have h' := h
    unfold Lib.TabIs World.var? at h'
    rw [hg] at h'
    by_cases hc : g < w.heap.size
    · exact hc
    · simp [Array.getElem?_eq_none (Nat.le_of_not_lt hc)] at h'
  exact var?_below hb hg hgs h

theorem pow10_at : Tryd.prog.globalNamed "internal/strconv.uint64pow10" = some 5 := by kernel_rfl

end Go.Proofs.YtkhacppaemilgaaDoor
