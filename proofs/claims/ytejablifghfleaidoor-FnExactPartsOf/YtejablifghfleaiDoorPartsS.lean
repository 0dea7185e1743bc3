/-
  The walk of the specification's PartsOf.
-/
import Derived.Test.YtejablifghfleaiDoorMarks
import Derived.Test.YtejablifghfleaiDoorPartsP
import Derived.Deep.LoopGhost
namespace Go.Proofs.YtejablifghfleaiDoor
open Go.RowKit

theorem ext_cut (s : ByteArray) (b i : Nat) : s.extract b i = ⟨(cutL s b i).toArray⟩ := by
  apply ByteArray.ext
  rw [ByteArray.data_extract]
  apply Array.toList_inj.1
  simp [cutL, List.take_drop]

theorem run_cut (s : ByteArray) (i j : Nat) (h1 : i ≤ j) (h2 : j ≤ s.size) (w : World) :
    (Instr.slice 9 (.string s) (some (.int .i64 (i : Int))) (some (.int .i64 (j : Int))) none).run Tryd.prog w = .ok (.string ⟨(cutL s i j).toArray⟩) w := by
  rw [run_slice_string_if w 9 s .i64 .i64 i j Tryd.underlying9, if_pos ⟨by omega, by omega⟩, if_pos ⟨by omega, by omega⟩]
  have : s.extract (i : Int).toNat (j : Int).toNat = s.extract i j := rfl
  rw [this, ext_cut]

theorem ret_vb {v : Value} {c d : Bool} (k : c = d) : Ending.returned (.tuple #[v, .bool c]) = .returned (.tuple #[v, .bool d]) := by rw [k]

theorem empty_row {w : World} {base : Nat} (hb : base ≤ w.heap.size) {L : List (List UInt8)} (hL : L = []) : (w.alloc (.cells #[] 9)).ownsRow base 9 1 (.slice (some ⟨w.heap.size, 0, none⟩) 0 0) L.length (L.map Sv) := by
  subst hL
  exact World.ownsRow_lit w #[] 0 hb (by decide) rfl

theorem empty_row' {w : World} {base g : Nat} (hg : g = w.heap.size) (hb : base ≤ w.heap.size) {L : List (List UInt8)} (hL : L = []) : (w.alloc (.cells #[] 9)).ownsRow base 9 1 (.slice (some ⟨g, 0, none⟩) 0 0) L.length (L.map Sv) := by
  subst hg
  exact empty_row hb hL

theorem own_map {w : World} {base : Nat} {v : Value} {out : List (List UInt8)} (h : w.ownsRow base 9 1 v out.length (out.map Sv)) : w.ownsRow base 9 1 v (out.map Sv).length (out.map Sv) := by
  rw [List.length_map]
  exact h

theorem row_snoc {w : World} {base : Nat} {v : Value} {out : List (List UInt8)} {c : List UInt8} (h : w.ownsRow base 9 1 v (out.map Sv ++ #[Value.string ⟨c.toArray⟩].toList).length (out.map Sv ++ #[Value.string ⟨c.toArray⟩].toList)) :
    w.ownsRow base 9 1 v (out ++ [c]).length ((out ++ [c]).map Sv) := by
  have e : out.map Sv ++ #[Value.string ⟨c.toArray⟩].toList = (out ++ [c]).map Sv := by simp [Sv]
  rw [e, List.length_map] at h
  exact h

set_option maxHeartbeats 2000000 in
set_option maxRecDepth 100000 in
theorem specParts_any (s : ByteArray) (L : List (List UInt8)) (ok : Bool) (hR : PRes s L ok) (w : World) :
    Calls Tryd.prog 10 #[.string s] w fun e w' => ∃ v, e = .returned (.tuple #[v, .bool ok]) ∧ w'.ownsRow w.heap.size 9 1 v L.length (L.map Sv) ∧ Below w.heap.size w w' := by
  obtain ⟨i0, hi, hz0, hz1, hz2⟩ := info_parts Tryd.info9
  have HR := hide hR
  clear hR
  by_cases hs : 600 < s.size
  · have H := hide ((unhide HR).no (.inl hs))
    go_enter Tryd.func10, Tryd.ntmps10
    go_wp2
    go_ret2
    exact ⟨_, ret_vb (unhide H).2.symm, empty_row (Nat.le_refl _) (unhide H).1, (Below.refl _ _).alloc (Nat.le_refl _) _⟩
  have hs' : (s.size : Int) ≤ 600 := by omega
  go_enter Tryd.func10, Tryd.ntmps10
  go_wp2
  go_loopg [4, 5, 6] (s.size + 1) (fun gk v bt it wr => ∃ (i b : Nat) (out : List (List UInt8)), i + gk = s.size + 1 ∧ it = .int .i64 i ∧ bt = .int .i64 b ∧ PtAt s i b out ∧ wr.ownsRow w.heap.size 9 1 v out.length (out.map Sv) ∧ Below w.heap.size w wr)
  case atStart => exact ⟨0, 0, [], by omega, rfl, rfl, PtAt.start s, World.ownsRow_lit w #[] 0 (Nat.le_refl _) (by decide) rfl, (Below.refl _ _).alloc (Nat.le_refl _) _⟩
  case round =>
    obtain ⟨i, b, out, hig, rfl, rfl, R, hown, hnx⟩ := hrel
    have HG := hide hig
    clear hig
    cases gk with
    | zero =>
      have hii : i = s.size + 1 := by have := unhide HG; omega
      have hout := R.done hii
      have hokL : okL s := fun k hk => R.ok k hk (by omega)
      have hni : ¬ (i : Int) ≤ (s.size : Int) := by omega
      obtain ⟨p, cap, rfl, _, _, hlen, _⟩ := row_form hown
      by_cases hm : 10 < out.length
      · have H := hide ((unhide HR).no (.inr (.inr (by rw [hout]; exact hm))))
        clear hii hout hokL hown
        go_wp2
        go_ret2
        exact ⟨_, ret_vb (unhide H).2.symm, empty_row hnx.size (unhide H).1, hnx.alloc hnx.size _⟩
      · have H := hide ((unhide HR).yes (by omega) hokL (by rw [hout]; omega))
        have HO := hide (show wr.ownsRow w.heap.size 9 1 (.slice p out.length cap) L.length (L.map Sv) by rw [(unhide H).1, hout]; exact hown)
        clear hii hout hokL hown hlen
        go_wp2
        go_ret2
        exact ⟨_, ret_vb (unhide H).2.symm, unhide HO, hnx⟩
    | succ g =>
      have hile : (i : Int) ≤ (s.size : Int) := by have := unhide HG; omega
      have hbi := R.le
      have hcn := R.cnt
      have hcut := fun w => run_cut s b i hbi (by omega) w
      by_cases hlt : i < s.size
      · have hb0 : s[i].toNat < 256 := s[i].toNat_lt
        by_cases hokb : okB s[i]
        · obtain ⟨o1, o2⟩ := hokb
          by_cases h32 : s[i].toNat = 32
          · have hc32 : ((s[i].toNat : Int) != 32) = false := by rw [h32]; rfl
            have R' := R.sp hlt ⟨o1, o2⟩ h32
            clear h32
            by_cases hbl : b < i
            · rw [if_pos hbl] at R'
              go_wp2_with (at_builtin; go_must (refine wpList_append_vals wr rfl _ _ 27 9 rfl w.heap.size i0 (.string ByteArray.empty) 16 Tryd.underlying27 hi hz0 hz1 hz2 rfl _ (out.map Sv) (by rfl) (own_map hown) _ (by intro u hu; simp at hu; subst hu; rfl) 1 1 rfl (by rfl) (by unfold maxLen; simp; omega) (by simp; omega) w w.heap.size (Nat.le_refl _) hnx.size hnx ?_); intro v' w1 hown' hnx')
              go_roundg g
              case measure => omega
              case rel => exact ⟨i + 1, i + 1, out ++ [cutL s b i], by have := unhide HG; omega, by go_num, by go_num, R', row_snoc hown', hnx'⟩
            · rw [if_neg hbl] at R'
              go_wp2
              go_roundg g
              case measure => omega
              case rel => exact ⟨i + 1, i + 1, out, by have := unhide HG; omega, by go_num, by go_num, R', hown, hnx⟩
          · have hc32 : ((s[i].toNat : Int) != 32) = true := by rw [bne_iff_ne]; omega
            have R' := R.more hlt ⟨o1, o2⟩ h32
            clear h32
            go_wp2
            go_roundg g
            case measure => omega
            case rel => exact ⟨i + 1, b, out, by have := unhide HG; omega, by go_num, rfl, R', hown, hnx⟩
        · have H := hide ((unhide HR).no (.inr (.inl (fun h => hokb (h i hlt)))))
          by_cases o1 : s[i].toNat < 32
          · clear hokb
            go_wp2
            go_ret2
            exact ⟨_, ret_vb (unhide H).2.symm, empty_row hnx.size (unhide H).1, hnx.alloc hnx.size _⟩
          · have o2 : 126 < s[i].toNat := by
              by_cases h : 126 < s[i].toNat
              · exact h
              · exact absurd ⟨by omega, by omega⟩ hokb
            clear hokb
            go_wp2
            go_ret2
            exact ⟨_, ret_vb (unhide H).2.symm, empty_row hnx.size (unhide H).1, hnx.alloc hnx.size _⟩
      · have hie : i = s.size := by omega
        have R' := R.fin hie
        have hni : ¬ (i : Int) < (s.size : Int) := by omega
        clear hie
        by_cases hbl : b < i
        · rw [if_pos hbl] at R'
          go_wp2_with (at_builtin; go_must (refine wpList_append_vals wr rfl _ _ 27 9 rfl w.heap.size i0 (.string ByteArray.empty) 16 Tryd.underlying27 hi hz0 hz1 hz2 rfl _ (out.map Sv) (by rfl) (own_map hown) _ (by intro u hu; simp at hu; subst hu; rfl) 1 1 rfl (by rfl) (by unfold maxLen; simp; omega) (by simp; omega) w w.heap.size (Nat.le_refl _) hnx.size hnx ?_); intro v' w1 hown' hnx')
          go_roundg g
          case measure => omega
          case rel => exact ⟨i + 1, i + 1, out ++ [cutL s b i], by have := unhide HG; omega, by go_num, by go_num, R', row_snoc hown', hnx'⟩
        · rw [if_neg hbl] at R'
          go_wp2
          go_roundg g
          case measure => omega
          case rel => exact ⟨i + 1, i + 1, out, by have := unhide HG; omega, by go_num, by go_num, R', hown, hnx⟩
end Go.Proofs.YtejablifghfleaiDoor
