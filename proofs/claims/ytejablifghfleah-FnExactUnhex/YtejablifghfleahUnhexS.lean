/-
  The walk of the specification's Unhex.
-/
import Derived.Test.YtejablifghfleahHexW
namespace Go.Proofs.Ytejablifghfleah
open Go.RowKit

theorem ret_i64 {a b : Int} (h : a = b) : Ending.returned (.int .i64 a) = .returned (.int .i64 b) := by rw [h]

/-- What l01Value answers. -/
def valI (b : UInt8) : Int := match hexv b with | some v => v | none => -1

theorem valI_lo {b : UInt8} (h1 : 48 ≤ b.toNat) (h2 : b.toNat ≤ 57) : (b.toNat : Int) - 48 = valI b := by
  unfold valI hexv
  rw [if_pos ⟨h1, h2⟩]
  simp; omega
theorem valI_hi {b : UInt8} (h1 : 97 ≤ b.toNat) (h2 : b.toNat ≤ 102) : (b.toNat : Int) - 97 + 10 = valI b := by
  unfold valI hexv
  rw [if_neg (by omega), if_pos ⟨h1, h2⟩]
  simp; omega
theorem valI_no {b : UInt8} (h1 : ¬ (48 ≤ b.toNat ∧ b.toNat ≤ 57)) (h2 : ¬ (97 ≤ b.toNat ∧ b.toNat ≤ 102)) : -1 = valI b := by
  unfold valI hexv
  rw [if_neg h1, if_neg h2]

theorem l01Value_any (b : UInt8) (w : World) :
    Calls Try.prog 25 #[.int .u8 (b.toNat : Int)] w fun e w' => e = .returned (.int .i64 (valI b)) ∧ w' = w := by
  have hb : b.toNat < 256 := b.toNat_lt
  by_cases h1 : 48 ≤ b.toNat ∧ b.toNat ≤ 57
  · have H := hide (valI_lo h1.1 h1.2)
    obtain ⟨g1, g2⟩ := h1
    go_enter Try.func25, Try.ntmps25
    go_wp2
    go_ret
    exact ⟨ret_i64 (unhide H), rfl⟩
  · by_cases h2 : 97 ≤ b.toNat ∧ b.toNat ≤ 102
    · have H := hide (valI_hi h2.1 h2.2)
      obtain ⟨g1, g2⟩ := h2
      have g3 : ¬ b.toNat ≤ 57 := by omega
      clear h1
      go_enter Try.func25, Try.ntmps25
      go_wp2
      go_ret
      exact ⟨ret_i64 (unhide H), rfl⟩
    · have H := hide (valI_no h1 h2)
      by_cases g1 : b.toNat < 48
      · clear h1 h2
        go_enter Try.func25, Try.ntmps25
        go_wp2
        go_ret
        exact ⟨ret_i64 (unhide H), rfl⟩
      · have g2 : ¬ b.toNat ≤ 57 := by omega
        by_cases g3 : b.toNat < 97
        · clear h1 h2
          go_enter Try.func25, Try.ntmps25
          go_wp2
          go_ret
          exact ⟨ret_i64 (unhide H), rfl⟩
        · have g4 : ¬ b.toNat ≤ 102 := by omega
          clear h1 h2
          go_enter Try.func25, Try.ntmps25
          go_wp2
          go_ret
          exact ⟨ret_i64 (unhide H), rfl⟩

theorem l01Value_some {b : UInt8} {x : Nat} (h : hexv b = some x) (w : World) :
    Calls Try.prog 25 #[.int .u8 (b.toNat : Int)] w fun e w' => e = .returned (.int .i64 (x : Int)) ∧ w' = w := by
  have := l01Value_any b w
  unfold valI at this
  rw [h] at this
  exact this
theorem l01Value_none {b : UInt8} (h : hexv b = none) (w : World) :
    Calls Try.prog 25 #[.int .u8 (b.toNat : Int)] w fun e w' => e = .returned (.int .i64 (-1)) ∧ w' = w := by
  have := l01Value_any b w
  unfold valI at this
  rw [h] at this
  exact this

/-- What Unhex answers. -/
def uhA (s : ByteArray) : List UInt8 := (unH s).getD []
def uhB (s : ByteArray) : Bool := (unH s).isSome
theorem uh_some {s : ByteArray} {l : List UInt8} (h : unH s = some l) : l = uhA s ∧ true = uhB s := by simp [uhA, uhB, h]
theorem uh_none {s : ByteArray} (h : unH s = none) : [] = uhA s ∧ false = uhB s := by simp [uhA, uhB, h]

theorem specUnhex_no (s : ByteArray) (hs : 40000 < s.size ∨ s.size % 2 ≠ 0) (w : World) :
    Calls Try.prog 19 #[.string s] w fun e w' => e = .returned (.tuple #[.string ⟨#[]⟩, .bool false]) ∧ Below w.heap.size w w' := by
  by_cases h : 40000 < s.size
  · clear hs
    go_enter Try.func19, Try.ntmps19
    go_wp2
    go_ret2
    exact ⟨rfl, Below.refl _ _⟩
  · have h2 : ((s.size : Int) % 2 != 0) = true := by rw [bne_iff_ne]; omega
    have h3 : (s.size : Int) ≤ 40000 := by omega
    clear hs
    go_enter Try.func19, Try.ntmps19
    go_wp2
    go_ret2
    exact ⟨rfl, Below.refl _ _⟩

set_option maxHeartbeats 1000000 in
set_option maxRecDepth 100000 in
theorem specUnhex_yes (s : ByteArray) (hs : s.size ≤ 40000) (he : s.size % 2 = 0) (w : World) :
    Calls Try.prog 19 #[.string s] w fun e w' => e = .returned (.tuple #[.string ⟨(uhA s).toArray⟩, .bool (uhB s)]) ∧ Below w.heap.size w w' := by
  obtain ⟨i0, hi, hz0, hz1, hz2⟩ := info_parts Try.info5
  have hb0 : ((s.size : Int) % 2 != 0) = false := by simp; omega
  have HE := hide he
  clear he
  go_enter Try.func19, Try.ntmps19
  go_wp2
  go_loopw [4, 5] (fun v i wr => ∃ (j q : Nat) (done : List UInt8), i = .int .i64 j ∧ j ≤ s.size ∧ q ≤ 20000 ∧ UnAt s j q done ∧ wr.ownsRow w.heap.size 5 1 v done.length (done.map Bv) ∧ Below w.heap.size w wr)
    (fun _ i _ => s.size - (intOf i).toNat)
  case atStart => exact ⟨0, 0, [], rfl, Nat.zero_le _, by omega, UnAt.start s, World.ownsRow_lit w #[] 0 (Nat.le_refl _) (by decide) rfl, (Below.refl _ _).alloc (Nat.le_refl _) _⟩
  case round =>
    obtain ⟨j, q, done, rfl, hj, hq, R, hown, hnx⟩ := hrel
    by_cases hlt : j < s.size
    · have hlt1 : j + 1 < s.size := by have := unhide HE; have := R.two; omega
      have hll : done.length ≤ 20000 := by rw [R.len]; exact hq
      have hk1 : (j : Int) + 1 < (s.size : Int) := by omega
      cases hx : hexv s[j] with
      | none =>
        have H := hide (uh_none (R.bad hlt1 (.inl hx)))
        have HX := hide (l01Value_none hx)
        clear hx
        go_wp2_with fail
        refine (unhide HX _).mono ?_
        rintro e w' ⟨rfl, rfl⟩
        go_wp2_with fail
        refine (l01Value_any _ _).mono ?_
        rintro e w' ⟨rfl, rfl⟩
        go_wp2
        go_ret2
        exact ⟨ret_str_ok (unhide H).1 (unhide H).2, hnx⟩
      | some x =>
        have hx16 := (hexd_v hx).2
        cases hy : hexv s[j + 1] with
        | none =>
          have H := hide (uh_none (R.bad hlt1 (.inr hy)))
          have HX := hide (l01Value_some hx)
          have HY := hide (l01Value_none hy)
          clear hx hy
          go_wp2_with fail
          refine (unhide HX _).mono ?_
          rintro e w' ⟨rfl, rfl⟩
          go_wp2_with fail
          refine (unhide HY _).mono ?_
          rintro e w' ⟨rfl, rfl⟩
          go_wp2
          go_ret2
          exact ⟨ret_str_ok (unhide H).1 (unhide H).2, hnx⟩
        | some y =>
          have hy16 := (hexd_v hy).2
          have R' := R.step hlt1 hx hy
          have HX := hide (l01Value_some hx)
          have HY := hide (l01Value_some hy)
          have HB : Hid (#[Value.int .u8 (16 * (x : Int) + (y : Int))].toList = [UInt8.ofNat (16 * x + y)].map Bv) := one_byte (by rw [ofNat_toNat _ (by omega)]; omega)
          clear hx hy
          go_wp2_with fail
          refine (unhide HX _).mono ?_
          rintro e w' ⟨rfl, rfl⟩
          go_wp2_with fail
          refine (unhide HY _).mono ?_
          rintro e w' ⟨rfl, rfl⟩
          go_wp2_with ((at_builtin; go_must (refine wpList_append_bytes _ rfl _ _ 34 5 rfl w.heap.size i0 Try.underlying34 hi hz0 hz1 hz2 _ done (by rfl) hown _ [UInt8.ofNat (16 * x + y)] HB.out 1 1 rfl (by rfl) (by simp; omega) w w.heap.size (Nat.le_refl _) hnx.size hnx ?_); intro v' w1 hown' hnx'))
          go_roundw
          case rel => exact ⟨j + 2, q + 1, done ++ [UInt8.ofNat (16 * x + y)], by go_num, by omega, by have := R'.two; omega, R', hown', hnx'⟩
          case measure => simp [intOf]; omega
    · have H := hide (uh_some (R.fin (by omega)))
      have hcv := run_string_owned Try.underlying34 Try.underlying5 Try.underlying9 hown
      clear hown
      go_wp2
      go_ret2
      exact ⟨ret_str_ok (unhide H).1 (unhide H).2, hnx⟩
end Go.Proofs.Ytejablifghfleah
