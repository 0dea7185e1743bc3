/-
  Points on curves: the arithmetic of both sides, and the program's weighed.
-/
import Derived.Test.YtkhacppaemilgaaAllR
import Derived.Test.YtkhacppaemilgaaApplyS
import Derived.Test.YtkhacppaemilgaaFixI
namespace Go.Proofs.Ytkhacppaemilgaa
open Go.RowKit

def wsum (wf g : Nat → Int) : Nat → Int
  | 0 => 0
  | k + 1 => wsum wf g k + wf k * g k

theorem wsum_bd {wf g : Nat → Int} {n : Nat} (hw : ∀ i, i < n → 0 ≤ wf i ∧ wf i ≤ 512) (hg : ∀ i, i < n → -8388608 ≤ g i ∧ g i ≤ 8388608) :
    ∀ k, k ≤ n → -((k : Int) * 4294967296) ≤ wsum wf g k ∧ wsum wf g k ≤ (k : Int) * 4294967296
  | 0, _ => by simp [wsum]
  | k + 1, h => by
    have ih := wsum_bd hw hg k (by omega)
    have h1 := hw k (by omega)
    have h2 := hg k (by omega)
    have h3 := mul_bd (A := 512) (X := 8388608) (by omega) h1.2 h2.1 h2.2
    simp only [wsum]
    omega

theorem wone {wf : Nat → Int} (k : Nat) : wsum wf (fun _ => 1) (k + 1) = wsum wf (fun _ => 1) k + wf k := by simp [wsum]

def quadI (a b c i : Int) : Int := rdivI ((4 - i) * (4 - i) * a + 2 * i * (4 - i) * b + i * i * c) 16
def cubicI (a b c d i : Int) : Int := rdivI ((8 - i) * (8 - i) * (8 - i) * a + 3 * i * (8 - i) * (8 - i) * b + 3 * i * i * (8 - i) * c + i * i * i * d) 512
def quadOk (a b c : Int × Int) : Bool := pointOkB a.1 a.2 && (pointOkB b.1 b.2 && pointOkB c.1 c.2)
def cubicOk (a b c d : Int × Int) : Bool := pointOkB a.1 a.2 && (pointOkB b.1 b.2 && (pointOkB c.1 c.2 && pointOkB d.1 d.2))
def quadP (a b c : Int × Int) (i : Int) : Int × Int := if quadOk a b c = true then (quadI a.1 b.1 c.1 (clampI i 0 4), quadI a.2 b.2 c.2 (clampI i 0 4)) else (0, 0)
def cubicP (a b c d : Int × Int) (i : Int) : Int × Int := if cubicOk a b c d = true then (cubicI a.1 b.1 c.1 d.1 (clampI i 0 8), cubicI a.2 b.2 c.2 d.2 (clampI i 0 8)) else (0, 0)

theorem clamp_in {x h : Int} (hh : 0 ≤ h) : 0 ≤ clampI x 0 h ∧ clampI x 0 h ≤ h := by unfold clampI; split <;> (try split) <;> omega

theorem four_cases {i : Int} (h : 0 ≤ i ∧ i ≤ 4) : i = 0 ∨ i = 1 ∨ i = 2 ∨ i = 3 ∨ i = 4 := by omega
theorem eight_cases {i : Int} (h : 0 ≤ i ∧ i ≤ 8) : i = 0 ∨ i = 1 ∨ i = 2 ∨ i = 3 ∨ i = 4 ∨ i = 5 ∨ i = 6 ∨ i = 7 ∨ i = 8 := by omega

theorem quad_in {a b c i lo hi : Int} (h : 0 ≤ i ∧ i ≤ 4) (a0 : lo ≤ a) (a1 : a ≤ hi) (b0 : lo ≤ b) (b1 : b ≤ hi) (c0 : lo ≤ c) (c1 : c ≤ hi) : lo ≤ quadI a b c i ∧ quadI a b c i ≤ hi := by
  unfold quadI rdivI
  rw [if_neg (by decide)]
  rcases four_cases h with rfl | rfl | rfl | rfl | rfl <;> split <;> omega
theorem cubic_in {a b c d i lo hi : Int} (h : 0 ≤ i ∧ i ≤ 8) (a0 : lo ≤ a) (a1 : a ≤ hi) (b0 : lo ≤ b) (b1 : b ≤ hi) (c0 : lo ≤ c) (c1 : c ≤ hi) (d0 : lo ≤ d) (d1 : d ≤ hi) : lo ≤ cubicI a b c d i ∧ cubicI a b c d i ≤ hi := by
  unfold cubicI rdivI
  rw [if_neg (by decide)]
  rcases eight_cases h with rfl | rfl | rfl | rfl | rfl | rfl | rfl | rfl | rfl <;> split <;> omega

set_option maxHeartbeats 4000000 in
set_option maxRecDepth 100000 in
theorem implWeighed_any (pf : Nat → Int × Int) (wf : Nat → Int) (b a : Option Addr) (m d n c : Nat) (hnm : n ≤ m) (hm : m ≤ 4)
    (hw : ∀ i, i < n → 0 ≤ wf i ∧ wf i ≤ 512) (hpx : ∀ i, i < n → -8388608 ≤ (pf i).1 ∧ (pf i).1 ≤ 8388608) (hpy : ∀ i, i < n → -8388608 ≤ (pf i).2 ∧ (pf i).2 ≤ 8388608)
    (w : World) (V : ∀ i, i < n → IntAt w a i (wf i)) (P : ∀ i, i < m → PtArg w b i (pf i)) :
    Calls Try.prog 48 #[.slice b m d, .slice a n c] w fun r w' => r = .returned (.agg #[.int .i64 (rdivI (wsum wf (fun i => (pf i).1) n) (wsum wf (fun _ => 1) n)), .int .i64 (rdivI (wsum wf (fun i => (pf i).2) n) (wsum wf (fun _ => 1) n))]) ∧ Below w.heap.size w w' := by
  have hX := hide (fun k hk => wsum_bd hw hpx k hk)
  have hY := hide (fun k hk => wsum_bd hw hpy k hk)
  have hO := hide (fun k hk => wsum_bd (g := fun _ => 1) hw (fun _ _ => by omega) k hk)
  replace hw := hide hw
  replace hpx := hide hpx
  replace hpy := hide hpy
  replace V := hide V
  replace P := hide P
  go_enter Try.func48, Try.ntmps48
  go_wp2_with fail
  obtain ⟨W, hW⟩ : ∃ W, W = w.alloc (.cells #[.int .i64 0, .int .i64 0] 27) := ⟨_, rfl⟩
  have R := hide (show W.heap[w.heap.size]? = some (.cells #[.int .i64 0, .int .i64 0] 27 (0, 0)) by rw [hW]; exact new_row _ _)
  have HB := hide (show Below w.heap.size w W by rw [hW]; exact al1_below _ _)
  rw [← hW]
  clear hW
  go_loopw [5, 6, 7, 12] (fun x y s i u => ∃ k : Nat, k ≤ n ∧ i = .int .i64 k ∧ x = .int .i64 (wsum wf (fun i => (pf i).1) k) ∧ y = .int .i64 (wsum wf (fun i => (pf i).2) k) ∧ s = .int .i64 (wsum wf (fun _ => 1) k) ∧ u = W) (fun _ _ _ i _ => n - (intOf i).toNat)
  case atStart => exact ⟨0, Nat.zero_le _, rfl, rfl, rfl, rfl, rfl⟩
  case round =>
    obtain ⟨k, hk, rfl, rfl, rfl, rfl, rfl⟩ := hrel
    by_cases hlt : k < n
    · have HV := (unhide V k hlt).next (unhide HB)
      have HP := (unhide P k (by omega)).next (unhide HB)
      have bX := unhide hX k hk
      have bY := unhide hY k hk
      have bO := unhide hO k hk
      have nX := unhide hX (k + 1) hlt
      have nY := unhide hY (k + 1) hlt
      have nO := unhide hO (k + 1) hlt
      have bw := unhide hw k hlt
      have bp := unhide hpx k hlt
      have bq := unhide hpy k hlt
      have m1 := mul_bd (A := 512) (X := 8388608) (by omega) bw.2 bp.1 bp.2
      have m2 := mul_bd (A := 512) (X := 8388608) (by omega) bw.2 bq.1 bq.2
      have eX : Hid (wsum wf (fun i => (pf i).1) (k + 1) = wsum wf (fun i => (pf i).1) k + wf k * (pf k).1) := rfl
      have eY : Hid (wsum wf (fun i => (pf i).2) (k + 1) = wsum wf (fun i => (pf i).2) k + wf k * (pf k).2) := rfl
      have eO : Hid (wsum wf (fun _ => 1) (k + 1) = wsum wf (fun _ => 1) k + wf k) := wone k
      rw [unhide eX] at nX
      rw [unhide eY] at nY
      rw [unhide eO] at nO
      generalize wsum wf (fun i => (pf i).1) k = X at bX nX eX ⊢
      generalize wsum wf (fun i => (pf i).2) k = Y at bY nY eY ⊢
      generalize wsum wf (fun _ => 1) k = O at bO nO eO ⊢
      generalize wf k = z at HV bw m1 m2 nX nY nO eX eY eO
      generalize pf k = p at HP bp bq m1 m2 nX nY eX eY
      obtain ⟨x0, y0⟩ := p
      obtain ⟨s, o, rfl, g0, g1⟩ := HP
      obtain ⟨s', o', rfl, g2⟩ := HV
      dsimp only at *
      have u1 : IntKind.i64.wrap (z * x0) = z * x0 := IntWalk.i64_in _ (by omega)
      have u2 : IntKind.i64.wrap (z * y0) = z * y0 := IntWalk.i64_in _ (by omega)
      have u3 : IntKind.i64.wrap (X + z * x0) = X + z * x0 := IntWalk.i64_in _ (by omega)
      have u4 : IntKind.i64.wrap (Y + z * y0) = Y + z * y0 := IntWalk.i64_in _ (by omega)
      have u5 : IntKind.i64.wrap (O + z) = O + z := IntWalk.i64_in _ (by omega)
      have hlm : (k : Int) < m := by omega
      clear bX bY bO nX nY nO bw bp bq m1 m2
      go_wp2_with fail
      go_roundw
      case rel => exact ⟨k + 1, hlt, by go_num, by rw [unhide eX], by rw [unhide eY], by rw [unhide eO], (by first | rfl | trivial)⟩
      case measure => simp [intOf]; omega
    · have hke : k = n := by omega
      subst hke
      have bX := unhide hX k hk
      have bY := unhide hY k hk
      have bO := unhide hO k hk
      obtain ⟨X, eX⟩ : ∃ X, X = wsum wf (fun i => (pf i).1) k := ⟨_, rfl⟩
      obtain ⟨Y, eY⟩ : ∃ Y, Y = wsum wf (fun i => (pf i).2) k := ⟨_, rfl⟩
      obtain ⟨O, eO⟩ : ∃ O, O = wsum wf (fun _ => 1) k := ⟨_, rfl⟩
      rw [← eX] at bX
      rw [← eY] at bY
      rw [← eO] at bO
      rw [← eX, ← eY, ← eO]
      have E1 := hide (implRoundDiv_any X O (by omega) (by omega) (by omega))
      have E2 := hide (implRoundDiv_any Y O (by omega) (by omega) (by omega))
      obtain ⟨qx, ex⟩ : ∃ q, q = rdivI X O := ⟨_, rfl⟩
      obtain ⟨qy, ey⟩ : ∃ q, q = rdivI Y O := ⟨_, rfl⟩
      rw [← ex] at E1
      rw [← ey] at E2
      have EE : Hid (Ending.returned (Value.agg #[Value.int IntKind.i64 qx, Value.int IntKind.i64 qy]) = Ending.returned (.agg #[.int .i64 (rdivI (wsum wf (fun i => (pf i).1) k) (wsum wf (fun _ => 1) k)), .int .i64 (rdivI (wsum wf (fun i => (pf i).2) k) (wsum wf (fun _ => 1) k))])) := by unfold Hid; rw [ex, ey, eX, eY, eO]
      clear ex ey eX eY eO
      clear bX bY bO
      go_wp2_with fail
      go_fit (unhide E1 _)
      rintro r w1 ⟨rfl, hb1⟩
      replace R := hide (row_next hb1 (unhide R))
      replace HB := hide (below_two (unhide HB) hb1)
      clear hb1
      go_wp2_with fail
      go_fit (unhide E2 _)
      rintro r w2 ⟨rfl, hb2⟩
      replace R := row_next hb2 (unhide R)
      replace HB := hide (below_two (unhide HB) hb2)
      clear hb2
      obtain ⟨r0, r1⟩ := row2 R
      obtain ⟨f0, f1⟩ := free2 R
      clear R
      go_wp2_with fail
      refine bodyPost_ret (v := .agg #[.int .i64 qx, .int .i64 qy]) (by simp [results, Try.results48, go_sem, r0, r1]) rfl ⟨unhide EE, ?_⟩
      exact below_put2 (unhide HB) (Nat.le_refl _) _ _
end Go.Proofs.Ytkhacppaemilgaa
