/-
  The walks of the program's PartsOf and of the law on it.
-/
import Derived.Test.YtejablifghfleaiDoorPartsS
import Derived.Test.YtejablifghfleaiDoorClone
import Derived.Test.YtejablifghfleaiDoorDecW
namespace Go.Proofs.YtejablifghfleaiDoor
open Go.RowKit

set_option maxHeartbeats 1000000 in
theorem isPrintable_yes (s : ByteArray) (hs : s.size ≤ 600) (h : okL s) (w : World) :
    Calls Tryd.prog 17 #[.string s] w fun e w' => e = .returned (.bool true) ∧ w' = w := by
  have H := hide h
  clear h
  go_enter Tryd.func17, Tryd.ntmps17
  go_wp2
  go_loop [3] (fun i => ∃ k : Nat, k ≤ s.size ∧ i = .int .i64 k) (fun i => s.size - (intOf i).toNat)
  case atStart => exact ⟨0, Nat.zero_le _, rfl⟩
  case round =>
    obtain ⟨k, hk, rfl⟩ := hrel
    by_cases hlt : k < s.size
    · obtain ⟨o1, o2⟩ := unhide H k hlt
      go_wp2
      go_round
      case rel => exact ⟨k + 1, by omega, by go_num⟩
      case measure => simp [intOf]; omega
    · go_wp2
      go_ret
      exact ⟨rfl, rfl⟩

set_option maxHeartbeats 1000000 in
theorem isPrintable_no (s : ByteArray) (hs : s.size ≤ 600) (h : ¬ okL s) (w : World) :
    Calls Tryd.prog 17 #[.string s] w fun e w' => e = .returned (.bool false) ∧ w' = w := by
  have H := hide h
  clear h
  go_enter Tryd.func17, Tryd.ntmps17
  go_wp2
  go_loop [3] (fun i => ∃ k : Nat, k ≤ s.size ∧ i = .int .i64 k ∧ Hid (∀ j (hj : j < s.size), j < k → okB s[j])) (fun i => s.size - (intOf i).toNat)
  case atStart => exact ⟨0, Nat.zero_le _, rfl, fun _ _ h => by omega⟩
  case round =>
    obtain ⟨k, hk, rfl, HK⟩ := hrel
    by_cases hlt : k < s.size
    · have hb0 : s[k].toNat < 256 := s[k].toNat_lt
      by_cases hokb : okB s[k]
      · have HN := hide (ok_next (unhide HK) hlt hokb)
        obtain ⟨o1, o2⟩ := hokb
        go_wp2
        go_round
        case rel => exact ⟨k + 1, by omega, by go_num, HN⟩
        case measure => simp [intOf]; omega
      · by_cases o1 : s[k].toNat < 32
        · clear hokb
          go_wp2
          go_ret
          exact ⟨rfl, rfl⟩
        · have o2 : 126 < s[k].toNat := by
            by_cases h : 126 < s[k].toNat
            · exact h
            · exact absurd ⟨by omega, by omega⟩ hokb
          clear hokb
          go_wp2
          go_ret
          exact ⟨rfl, rfl⟩
    · exact absurd (fun j hj => unhide HK j hj (by omega)) (unhide H)

theorem okL_ascii {s : ByteArray} (h : okL s) : ∀ (j : Nat) b, s.data.toList[j]? = some b → b.toNat < 128 := by
  intro j b hj
  obtain ⟨hlt, rfl⟩ := List.getElem?_eq_some_iff.1 hj
  have hlt' : j < s.size := hlt
  have := (h j hlt').2
  have e : s[j] = s.data.toList[j] := rfl
  rw [e] at this
  omega

theorem fields_row (w : World) (L : List (List UInt8)) (hl : L.length ≤ 1000000) : (w.alloc (.cells (L.map fun l => Value.string ⟨l.toArray⟩).toArray 9)).ownsRow w.heap.size 9 1 (.slice (some ⟨w.heap.size, 0, none⟩) L.length L.length) L.length (L.map Sv) := by
  have := World.ownsRow_lit (base := w.heap.size) (e := 9) (size := 1) w (L.map fun l => Value.string ⟨l.toArray⟩).toArray L.length (Nat.le_refl _) (by unfold maxLen; omega) (by simp)
  rw [List.toList_toArray] at this
  exact this

theorem fields_small (s : ByteArray) (hs : s.size ≤ 600) : (Lib.fields s.data.toList).length ≤ 600 := by
  have hc : ∀ (l : List UInt8) (b : Bool), Lib.cntF b l ≤ l.length := by
    intro l
    induction l with
    | nil => intro b; simp [Lib.cntF]
    | cons x l ih => intro b; simp only [Lib.cntF, List.length_cons]; have := ih (Lib.isSp x); split <;> omega
  rw [Lib.fields_length]
  have := hc s.data.toList true
  have hl : s.data.toList.length = s.size := rfl
  omega

set_option maxHeartbeats 1000000 in
set_option maxRecDepth 100000 in
theorem implParts_any (s : ByteArray) (L : List (List UInt8)) (ok : Bool) (hR : PRes s L ok) (w : World) (htab : ∀ w', Below w.heap.size w w' → Lib.TabIs Tryd.prog w' "strings.asciiSpace" .u8 Lib.asciiSpaceTab) :
    Calls Tryd.prog 11 #[.string s] w fun e w' => ∃ v, e = .returned (.tuple #[v, .bool ok]) ∧ w'.ownsRow w.heap.size 9 1 v L.length (L.map Sv) ∧ Below w.heap.size w w' := by
  have HR := hide hR
  have HT := hide htab
  clear hR htab
  by_cases hs : 600 < s.size
  · have H := hide ((unhide HR).no (.inl hs))
    go_enter Tryd.func11, Tryd.ntmps11
    go_wp2
    go_ret2
    exact ⟨_, ret_vb (unhide H).2.symm, empty_row (Nat.le_refl _) (unhide H).1, (Below.refl _ _).alloc (Nat.le_refl _) _⟩
  have hs1 : s.size ≤ 600 := by omega
  have hs' : (s.size : Int) ≤ 600 := by omega
  by_cases hok : okL s
  · have HO := hide hok
    have HA := hide (okL_ascii hok)
    clear hok
    have hfs := fields_small s hs1
    have hrow := fun w => fields_row w (Lib.fields s.data.toList) (by omega)
    have HF := hide hrow
    clear hrow
    by_cases hm : 10 < (Lib.fields s.data.toList).length
    · have H := hide ((unhide HR).no (.inr (.inr hm)))
      have hm' : (10 : Int) < ((Lib.fields s.data.toList).length : Int) := by omega
      go_enter Tryd.func11, Tryd.ntmps11
      go_wp2_with (first | (go_at_call 17; go_must (refine (isPrintable_yes s hs1 (unhide HO) _).mono ?_); rintro e w1 ⟨rfl, rfl⟩) | (go_at_call 19; go_must (refine (clone_any s (by omega) _).mono ?_); rintro e w2 ⟨rfl, hb2⟩) | (go_at_call 18; go_must (refine (Tryd.strings_Fields s _ (by omega) (unhide HA) (unhide HT _ hb2)).mono ?_); rintro e w3 ⟨rfl, rfl⟩))
      go_ret2
      exact ⟨_, ret_vb (unhide H).2.symm, empty_row' (w := w2.alloc _) (by simp) (by have := hb2.size; simp; omega) (unhide H).1, (hb2.alloc hb2.size _).alloc (by have := hb2.size; simp; omega) _⟩
    · have H := hide ((unhide HR).yes hs1 (unhide HO) (by omega))
      have hm' : ¬ (10 : Int) < ((Lib.fields s.data.toList).length : Int) := by omega
      go_enter Tryd.func11, Tryd.ntmps11
      go_wp2_with (first | (go_at_call 17; go_must (refine (isPrintable_yes s hs1 (unhide HO) _).mono ?_); rintro e w1 ⟨rfl, rfl⟩) | (go_at_call 19; go_must (refine (clone_any s (by omega) _).mono ?_); rintro e w2 ⟨rfl, hb2⟩) | (go_at_call 18; go_must (refine (Tryd.strings_Fields s _ (by omega) (unhide HA) (unhide HT _ hb2)).mono ?_); rintro e w3 ⟨rfl, rfl⟩))
      go_ret2
      exact ⟨_, ret_vb (unhide H).2.symm, by rw [(unhide H).1]; exact own_low (unhide HF _) hb2.size, hb2.alloc hb2.size _⟩
  · have H := hide ((unhide HR).no (.inr (.inl hok)))
    have HO := hide hok
    clear hok
    go_enter Tryd.func11, Tryd.ntmps11
    go_wp2_with (go_at_call 17; go_must (refine (isPrintable_no s hs1 (unhide HO) _).mono ?_); rintro e w1 ⟨rfl, rfl⟩)
    go_ret2
    exact ⟨_, ret_vb (unhide H).2.symm, empty_row (Nat.le_refl _) (unhide H).1, (Below.refl _ _).alloc (Nat.le_refl _) _⟩

theorem space_at : Tryd.prog.globalNamed "strings.asciiSpace" = some 0 := by kernel_rfl

set_option maxHeartbeats 2000000 in
set_option maxRecDepth 100000 in
theorem fnExactPartsOf_walk (a0 : ByteArray) (_ : a0.size ≤ maxLen) (w : World) (htab : Lib.TabIs Tryd.prog w "strings.asciiSpace" .u8 Lib.asciiSpaceTab) :
    Calls Tryd.prog 5 #[.string a0] w fun e w' => e = .returned (.bool true) ∧ Below w.heap.size w w' := by
  have HT := hide (fun w' => @tab_below w w' _ _ _ _ space_at htab)
  clear htab
  by_cases hs : 1048576 < a0.size
  · go_enter Tryd.func5, Tryd.ntmps5
    go_wp2
    go_ret
    exact ⟨rfl, Below.refl _ _⟩
  have hs' : (a0.size : Int) ≤ 1048576 := by omega
  obtain ⟨L, ok, hR, hL⟩ := pres_any a0
  have HR := hide hR
  clear hR
  go_enter Tryd.func5, Tryd.ntmps5
  go_wp2_with fail
  refine (specParts_any a0 L ok (unhide HR) _).mono ?_
  rintro e w1 ⟨v0, rfl, o0, b1⟩
  have O0 := hide o0; have B1 := hide b1; clear o0 b1
  go_wp2_with fail
  refine (implParts_any a0 L ok (unhide HR) _ (fun w' h => unhide HT w' (below_two (unhide B1) h))).mono ?_
  rintro e w2 ⟨v1, rfl, o1, b2⟩
  have O1 := hide o1; have B2 := hide b2; clear o1 b2
  go_wp2_with fail
  refine (eqStringS_yes v1 v0 _ _ L _ (by omega) (unhide O1) (own_below (unhide O0) (unhide B2))).mono ?_
  rintro e w3 ⟨rfl, q3, rfl⟩
  go_wp2_with fail
  refine (markStringS_any v1 _ L 1 (by omega) (by omega) _ (by omega) (own_drews (unhide O1) _)).mono ?_
  rintro e w4 ⟨rfl, o4, g4⟩
  have C2 := hide (below_two (unhide B1) (unhide B2))
  have C4 := hide ((below_drews (unhide C2) q3).grown g4 (unhide C2).size (fun k hk => Nat.le_trans (unhide B1).size ((unhide O1).lt k hk).1))
  have O04 := hide ((own_drews (own_below (unhide O0) (unhide B2)) q3).kept g4 (own_apart (unhide O0) (unhide O1)))
  have O14 := hide o4
  clear o4 g4
  go_wp2_with fail
  refine (heldStringS_yes v1 _ L.length 1 (by omega) (by omega) _ (by omega) (unhide O14)).mono ?_
  rintro e w5 ⟨rfl, b5⟩
  have C5 := hide ((unhide C4).trans (b5.mono (unhide C4).size))
  have O05 := hide (own_below (unhide O04) b5)
  have O15 := hide (own_below (unhide O14) b5)
  clear b5
  have hn0 : ¬ (((1 + L.length : Nat) : Int) < 0) := by omega
  go_wp2_with fail
  refine (implParts_any a0 L ok (unhide HR) _ (fun w' h => unhide HT w' ((unhide C5).trans (h.mono (unhide C5).size)))).mono ?_
  rintro e w6 ⟨v2, rfl, o6, b6⟩
  have C6 := hide ((unhide C5).trans (b6.mono (unhide C5).size))
  have O06 := hide (own_below (unhide O05) b6)
  have O16 := hide (own_below (unhide O15) b6)
  have O26 := hide o6
  clear o6 b6
  go_wp2_with fail
  refine (eqStringS_yes v2 v0 _ _ L _ (by omega) (unhide O26) (unhide O06)).mono ?_
  rintro e w7 ⟨rfl, q7, rfl⟩
  go_wp2_with fail
  refine (heldStringS_yes v1 _ L.length 1 (by omega) (by omega) _ (by omega) (own_drews (unhide O16) _)).mono ?_
  rintro e w8 ⟨rfl, b8⟩
  go_wp2
  go_ret
  exact ⟨rfl, (below_drews (unhide C6) q7).trans (b8.mono (unhide C6).size)⟩
end Go.Proofs.YtejablifghfleaiDoor
