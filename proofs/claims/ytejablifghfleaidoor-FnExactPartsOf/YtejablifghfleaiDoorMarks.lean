/-
  The helpers of the laws on lists of texts: marks that are written into an answer and looked for again.
-/
import Derived.Test.YtejablifghfleaiDoorBase
import Derived.Test.YtejablifghfleaiDoorKit2
import Derived.Test.YtejablifghfleaiDoorDecs
import Derived.Deep.QuietTactic
import Derived.BigQuiet
import Derived.Deep.RegionHeld3
import Derived.WalkSmall
namespace Go.Proofs.YtejablifghfleaiDoor
open Go.RowKit

theorem Tryd.info9 : (Tryd.prog.info? 9).map (fun i => (i.zero, i.size, i.bytes)) = some (some (.string ByteArray.empty), 1, 16) := by kernel_rfl

/-- The mark of k. -/
def mkT (k : Nat) : List UInt8 := 109 :: dd k

theorem run_one_byte' (w : World) (b : UInt8) (X : List UInt8) (hX : X = [b]) (q : Int) (hq : q = (b.toNat : Int)) :
    (convert 33 9 (.slice (some ⟨w.heap.size, 0, none⟩) 1 1)).run Tryd.prog (w.alloc (.cells #[.int .u8 q] 5)) = .ok (.string ⟨X.toArray⟩) (w.alloc (.cells #[.int .u8 q] 5)) := by
  subst hX hq
  exact run_string_owned (base := 0) (n := 1) Tryd.underlying33 Tryd.underlying5 Tryd.underlying9 (World.ownsRow_lit w #[.int .u8 (b.toNat : Int)] 1 (Nat.zero_le _) (by decide) rfl)

set_option maxHeartbeats 1000000 in
theorem markText_any (u : Nat) (h0 : u ≠ 0) (h1 : u ≤ 1000000000000) (w : World) :
    Calls Tryd.prog 20 #[.int .i64 u] w fun e w' => e = .returned (.string ⟨(mkT u).toArray⟩) ∧ Below w.heap.size w w' := by
  have hne : ¬ (u : Int) ≤ 0 := by omega
  have hlen := dd_len u (by omega)
  go_enter Tryd.func20, Tryd.ntmps20
  go_wp2
  go_loopw [0, 3] (fun t s wr => ∃ (m : Nat) (l : List UInt8), t = .int .i64 m ∧ s = .string ⟨l.toArray⟩ ∧ m ≤ 1000000000000 ∧ l.length ≤ 21 ∧ Hid (dd m ++ l = dd u) ∧ Below w.heap.size w wr) (fun t _ _ => (intOf t).toNat)
  case atStart => exact ⟨u, [], rfl, rfl, h1, by simp, by unfold Hid; simp, Below.refl _ _⟩
  case round =>
    obtain ⟨m, l, rfl, rfl, hm, hl, HD, hnx⟩ := hrel
    by_cases hz : m = 0
    · have HE : Hid ([109] ++ l = mkT u) := by unfold Hid mkT; have := unhide HD; rw [hz, dd_zero] at this; rw [← this]; rfl
      have hadd : ∀ w, (Op.stringOp .add ⟨#[109]⟩ ⟨l.toArray⟩).run Tryd.prog w = .ok (.string ⟨([109] ++ l).toArray⟩) w := fun w => run_string_add_lists w [109] l (by simp) (by omega)
      have hz' : ¬ (0 : Int) < (m : Int) := by omega
      clear hz
      go_wp2
      go_ret
      exact ⟨ret_str (unhide HE), hnx⟩
    · have hz' : (0 : Int) < (m : Int) := by omega
      obtain ⟨X, hX⟩ : ∃ X : List UInt8, X = [hexd (m % 10)] := ⟨_, rfl⟩
      have hXl : X.length = 1 := by rw [hX]; rfl
      have HX : Hid (X = [hexd (m % 10)]) := hX
      have hcv := run_one_byte' wr _ X hX (48 + (m : Int) % 10) (by rw [hexd_dig (by omega)]; omega)
      have hadd : ∀ w, (Op.stringOp .add ⟨X.toArray⟩ ⟨l.toArray⟩).run Tryd.prog w = .ok (.string ⟨(X ++ l).toArray⟩) w := fun w => run_string_add_lists w X l (by omega) (by omega)
      have HN : Hid (dd (m / 10) ++ (X ++ l) = dd u) := by
        unfold Hid; rw [← unhide HD, dd_step hz, unhide HX]; simp
      have HL : Hid (dd (m / 10) ++ (X ++ l) = dd u → (X ++ l).length ≤ 21) := by
        intro h; have := congrArg List.length h; rw [List.length_append] at this; omega
      clear hX hXl hz
      go_wp2
      go_roundw
      case rel => exact ⟨m / 10, X ++ l, by go_num, rfl, by omega, unhide HL (unhide HN), HN, hnx.alloc hnx.size _⟩
      case measure => simp [intOf]; omega

/-- The marks from k on. -/
def marks : Nat → Nat → List (List UInt8)
  | _, 0 => []
  | k, n + 1 => mkT k :: marks (k + 1) n
theorem marks_len (k n : Nat) : (marks k n).length = n := by
  induction n generalizing k with
  | zero => rfl
  | succ n ih => simp [marks, ih]
theorem marks_at (k n j : Nat) (h : j < n) : (marks k n)[j]? = some (mkT (k + j)) := by
  induction n generalizing k j with
  | zero => omega
  | succ n ih =>
    cases j with
    | zero => simp [marks]
    | succ j => simp only [marks, List.getElem?_cons_succ]; rw [ih (k + 1) j (by omega)]; congr 2; omega

set_option maxHeartbeats 1000000 in
set_option maxRecDepth 100000 in
/-- Two rows of the same texts are alike. -/
theorem eqStringS_yes (va vb : Value) (ba bb : Nat) (l : List (List UInt8)) (w : World) (hl : l.length ≤ 1000000) (ha : w.ownsRow ba 9 1 va l.length (l.map Sv)) (hb : w.ownsRow bb 9 1 vb l.length (l.map Sv)) :
    Calls Tryd.prog 12 #[va, vb] w fun e w' => e = .returned (.bool true) ∧ ∃ q, w' = w.drewN q := by
  have hA := hide ha
  have hB := hide hb
  obtain ⟨pa, ca, rfl, _, _, _, hpa⟩ := row_form ha
  obtain ⟨pb, cb, rfl, _, _, _, hpb⟩ := row_form hb
  clear ha hb
  have hne : ((l.length : Int) != (l.length : Int)) = false := by simp
  go_enter Tryd.func12, Tryd.ntmps12
  go_wp2
  go_loopw [5] (fun i wr => ∃ k q : Nat, k ≤ l.length ∧ i = .int .i64 k ∧ wr = w.drewN q) (fun i _ => l.length - (intOf i).toNat)
  case atStart => exact ⟨0, 0, Nat.zero_le _, rfl, rfl⟩
  case round =>
    obtain ⟨k, q, hk, rfl, rfl⟩ := hrel
    by_cases hlt : k < l.length
    · obtain ⟨ga, rfl, _, _⟩ := hpa (by omega)
      obtain ⟨gb, rfl, _, _⟩ := hpb (by omega)
      obtain ⟨x, hx⟩ : ∃ x, l[k]? = some x := ⟨_, List.getElem?_eq_getElem hlt⟩
      have c1 : w.cell? ⟨ga, k, none⟩ = some (.string ⟨x.toArray⟩) := by rw [(unhide hA).cellAt k (by omega), List.getElem?_map, hx]; rfl
      have c2 : w.cell? ⟨gb, k, none⟩ = some (.string ⟨x.toArray⟩) := by rw [(unhide hB).cellAt k (by omega), List.getElem?_map, hx]; rfl
      have hk1 : (k : Int) < (l.length : Int) := by omega
      have hkk : (0 : Int) ≤ (k : Int) := by omega
      clear hx
      go_wp2
      go_quiet (fail)
      go_wp2
      go_roundw
      case rel => exact ⟨k + 1, _, by omega, by go_num, rfl⟩
      case measure => simp [intOf]; omega
    · go_wp2
      go_ret
      exact ⟨rfl, q, rfl⟩

theorem marks_snoc (k n : Nat) : marks k (n + 1) = marks k n ++ [mkT (k + n)] := by
  induction n generalizing k with
  | zero => rfl
  | succ n ih =>
    have : marks k (n + 1 + 1) = mkT k :: marks (k + 1) (n + 1) := rfl
    rw [this, ih (k + 1)]
    have e : k + 1 + n = k + (n + 1) := by omega
    rw [e]
    rfl

/-- j marks are written. -/
theorem marks_set (l : List (List UInt8)) (k j : Nat) (hj : j < l.length) :
    ((marks k j ++ l.drop j).map Sv).set j (.string ⟨(mkT (k + j)).toArray⟩) = (marks k (j + 1) ++ l.drop (j + 1)).map Sv := by
  have e : (Value.string ⟨(mkT (k + j)).toArray⟩) = Sv (mkT (k + j)) := rfl
  have hs : (marks k j ++ l.drop j).set j (mkT (k + j)) = marks k (j + 1) ++ l.drop (j + 1) := by
    rw [List.set_append_right _ _ (by rw [marks_len]; exact Nat.le_refl _), marks_len, Nat.sub_self, List.drop_eq_getElem_cons hj, List.set_cons_zero, marks_snoc, List.append_assoc]
    rfl
  rw [e, ← List.map_set, hs]

theorem mark_row {w : World} {base j k cap : Nat} {g : Nat} {l : List (List UInt8)} (hj : j < l.length) (h : w.ownsRow base 9 1 (.slice (some ⟨g, 0, none⟩) l.length cap) l.length ((marks k j ++ l.drop j).map Sv)) :
    (w.setCell ⟨g, j, none⟩ (.string ⟨(mkT (k + j)).toArray⟩)).ownsRow base 9 1 (.slice (some ⟨g, 0, none⟩) l.length cap) l.length ((marks k (j + 1) ++ l.drop (j + 1)).map Sv) := by
  have := (h.stored j (.string ⟨(mkT (k + j)).toArray⟩)).1
  rw [marks_set l k j hj] at this
  exact this

set_option maxHeartbeats 1000000 in
set_option maxRecDepth 100000 in
theorem markStringS_any (v : Value) (base : Nat) (l : List (List UInt8)) (k : Nat) (hk : k ≠ 0) (hk2 : k ≤ 1000000) (w : World) (hl : l.length ≤ 1000000) (hv : w.ownsRow base 9 1 v l.length (l.map Sv)) :
    Calls Tryd.prog 13 #[v, .int .i64 k] w fun e w' => e = .returned (.int .i64 ((k + l.length : Nat) : Int)) ∧ w'.ownsRow base 9 1 v l.length ((marks k l.length).map Sv) ∧ w.grownBy w' v.ownBlock := by
  obtain ⟨p, cap, rfl, _, _, _, hp⟩ := row_form hv
  have HV := hide hv
  clear hv
  go_enter Tryd.func13, Tryd.ntmps13
  go_wp2
  go_loopw [1, 5] (fun t i wr => ∃ j : Nat, j ≤ l.length ∧ i = .int .i64 j ∧ t = .int .i64 ((k + j : Nat) : Int) ∧ wr.ownsRow base 9 1 (.slice p l.length cap) l.length ((marks k j ++ l.drop j).map Sv) ∧ w.grownBy wr (Value.slice p l.length cap).ownBlock) (fun _ i _ => l.length - (intOf i).toNat)
  case atStart => exact ⟨0, Nat.zero_le _, rfl, rfl, unhide HV, World.grownBy.refl _ _⟩
  case round =>
    obtain ⟨j, hj, rfl, rfl, hown, hgr⟩ := hrel
    have HO := hide hown
    have HG := hide hgr
    clear hown hgr
    by_cases hlt : j < l.length
    · obtain ⟨g, rfl, _, _⟩ := hp (by omega)
      have hj1 : (j : Int) < (l.length : Int) := by omega
      have hj0 : (0 : Int) ≤ (j : Int) := by omega
      go_wp2_with (go_at_call 20; go_must (refine (markText_any (k + j) (by omega) (by omega) _).mono ?_); rintro e w1 ⟨rfl, hb1⟩; have ho1 := own_below (unhide HO) hb1; obtain ⟨x, hx⟩ : ∃ x, w1.cell? ⟨g, j, none⟩ = some x := ⟨_, (ho1.cellAt j (by omega)).trans (List.getElem?_eq_getElem (by have := ho1.1; omega))⟩; have hfr := ho1.frozenAt j; have HB := hide hb1; have H1 := hide ho1; clear hb1 ho1)
      go_roundw
      case rel => exact ⟨j + 1, by omega, by go_num, by go_num, mark_row hlt (unhide H1), grown_trans (unhide HG) (grown_trans (grown_of_below (unhide HB) _) ((unhide H1).stored j _).2)⟩
      case measure => simp [intOf]; omega
    · have hje : j = l.length := by omega
      subst hje
      go_wp2
      go_ret
      exact ⟨rfl, by have := unhide HO; simpa using this, unhide HG⟩

set_option maxHeartbeats 1000000 in
set_option maxRecDepth 100000 in
theorem heldStringS_yes (v : Value) (base n k : Nat) (hk : k ≠ 0) (hk2 : k ≤ 1000000) (w : World) (hl : n ≤ 1000000) (hv : w.ownsRow base 9 1 v n ((marks k n).map Sv)) :
    Calls Tryd.prog 14 #[v, .int .i64 k] w fun e w' => e = .returned (.int .i64 ((k + n : Nat) : Int)) ∧ Below w.heap.size w w' := by
  obtain ⟨p, cap, rfl, _, _, _, hp⟩ := row_form hv
  have HV := hide hv
  clear hv
  go_enter Tryd.func14, Tryd.ntmps14
  go_wp2
  go_loopw [1, 5] (fun t i wr => ∃ j : Nat, j ≤ n ∧ i = .int .i64 j ∧ t = .int .i64 ((k + j : Nat) : Int) ∧ Below w.heap.size w wr) (fun _ i _ => n - (intOf i).toNat)
  case atStart => exact ⟨0, Nat.zero_le _, rfl, rfl, Below.refl _ _⟩
  case round =>
    obtain ⟨j, hj, rfl, rfl, hnx⟩ := hrel
    have HN := hide hnx
    by_cases hlt : j < n
    · obtain ⟨g, rfl, _, hgs⟩ := hp (by omega)
      have hj1 : (j : Int) < (n : Int) := by omega
      have hj0 : (0 : Int) ≤ (j : Int) := by omega
      have c1 : wr.cell? ⟨g, j, none⟩ = some (.string ⟨(mkT (k + j)).toArray⟩) := by
        rw [hnx.cell (p := ⟨g, j, none⟩) hgs, (unhide HV).cellAt j (by omega), List.getElem?_map, marks_at k n j hlt]; rfl
      have hgw : g < wr.heap.size := Nat.lt_of_lt_of_le hgs hnx.size
      have HM : Hid (∀ w, Calls Tryd.prog 20 #[.int .i64 ((k : Int) + (j : Int))] w fun e w' => e = .returned (.string ⟨(mkT (k + j)).toArray⟩) ∧ Below w.heap.size w w') := by
        intro w
        have := markText_any (k + j) (by omega) (by omega) w
        simpa using this
      clear hnx
      go_wp2
      go_region_held3 (fun w' => w'.cell? ⟨g, j, none⟩ = some (.string ⟨(mkT (k + j)).toArray⟩)) (first | go_keep | skip) ((go_at_call 20; refine (unhide HM _).mono ?_; rintro e w' ⟨rfl, hb1⟩; have hcc := hb1.cell (p := ⟨g, j, none⟩) (by exact hgw); have HB := hide hb1; clear hb1))
      go_wp2
      go_roundw
      case rel => exact ⟨j + 1, by omega, by go_num, by go_num, below_two (unhide HN) (below_undrew (unhide HB))⟩
      case measure => simp [intOf]; omega
    · have hje : j = n := by omega
      subst hje
      go_wp2
      go_ret
      exact ⟨rfl, unhide HN⟩
end Go.Proofs.YtejablifghfleaiDoor
