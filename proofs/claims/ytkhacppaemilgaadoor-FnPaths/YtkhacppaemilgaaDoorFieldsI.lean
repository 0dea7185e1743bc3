/-
  strings.FieldsSeq: what it hands out, at every text (made by fieldslaw.py).
-/
import Derived.RangeFuncNested
import Derived.RangeFuncBound
import Derived.RangeFuncCalls
import Derived.RangeFuncLeaves
import Derived.Shelf.Abstract
import Derived.Shelf.RegionOpen
import Derived.WalkKit
import Derived.OwnWalkIn
import Derived.TacticsInMore
import Derived.LoopNIn
import Derived.LoopIn
import Derived.Shelf.Unicode.DecodeAny
import Derived.Test.YtkhacppaemilgaaDoorFieldsP
import Derived.Test.YtkhacppaemilgaaDoorDrawM
import Derived.Test.YtkhacppaemilgaaDoorShelf3
import Derived.Test.YtkhacppaemilgaaDoorShelf4
namespace Go.Proofs.YtkhacppaemilgaaDoor
open Go.RowKit Go.Shelf
attribute [local go_sem] Oper.semAt_some

/-- The library's tables as its initialisers lay them. -/
structure Tabs (w : World) : Prop where
  sp : Lib.TabIs Tryd.prog w "strings.asciiSpace" .u8 Lib.asciiSpaceTab
  u8 : Lib.Utf8Tabs 3 4 w
  wh : Lib.WhiteTab 1 w
theorem space_at : Tryd.prog.globalNamed "strings.asciiSpace" = some 0 := by kernel_rfl
theorem Tabs.next {w w' : World} (h : Tabs w) (hb : Below w.heap.size w w') : Tabs w' :=
  ⟨tab_below space_at h.sp hb, ⟨fun c hc => kc hb (h.u8.1 c hc), fun i hi => ⟨kc hb (h.u8.2 i hi).1, kc hb (h.u8.2 i hi).2⟩⟩, WhiteTab_below h.wh hb⟩
theorem Tabs.space {w : World} (h : Tabs w) (b : UInt8) : w.cell? ⟨0, b.toNat, none⟩ = some (.int .u8 (if Lib.isSp b then 1 else 0)) := by
  have hb := b.toNat_lt
  have h1 := World.var?_cell space_at h.sp b.toNat
  rw [h1]
  have e := Lib.asciiSpaceTab_at b.toNat (by omega)
  rw [UInt8.ofNat_toNat] at e
  rw [List.getElem?_toArray, List.getElem?_map, List.getElem?_eq_getElem (by rw [Lib.asciiSpaceTab_length]; omega)]
  rw [List.getD_eq_getElem?_getD, List.getElem?_eq_getElem (by rw [Lib.asciiSpaceTab_length]; omega)] at e
  rw [← e]; rfl

theorem fieldsSeq_any (s : ByteArray) (w : World) :
    Calls Tryd.prog 47 #[.string s] w fun r w' => r = .returned (.func (.func 64) #[] #[.pointer (some ⟨w.heap.size, 0, none⟩)]) ∧ w' = w.alloc (.cells #[.string s] 9) := by
  go_enter Tryd.func47, Tryd.ntmps47
  go_wp2_with fail
  go_ret
  exact ⟨rfl, rfl⟩

theorem decodeRune_any (s : ByteArray) (w : World) (hT : Lib.Utf8Tabs 3 4 w) :
    Calls Tryd.prog 65 #[.string s] w fun e w' => e = .returned (.tuple #[.int .i32 (Lib.decodeGo s).1, .int .i64 (Lib.decodeGo s).2]) ∧ Below w.heap.size w w' := Any.utf8_DecodeRuneInString Tryd.lays197 s w hT

def Kf (n₀ B : Nat) (W W' : World) : Prop := Below n₀ W W' ∧ W'.heap[B]? = W.heap[B]?

set_option maxHeartbeats 8000000 in
set_option maxRecDepth 100000 in
theorem fields_stops (n : Nat) (hn : 1 ≤ n) (w0 : World) (s : ByteArray) (hs : s.size ≤ 1048576) (B : Nat) (T : Tabs w0) (w : World) (hw : Below w0.heap.size w0 w) (hB : w.heap[B]? = some (.cells #[.string s] 9 (0, 0))) :
    SeqStopsK Fence.wide n Tryd.prog 64 #[.pointer (some ⟨B, 0, none⟩)] (fun x : Wd => #[.string x.1]) (Kf w0.heap.size B) (FAll s) (FPart s) (s.size + 1) w := fun l J Jx W hW hJ hJx hY h0 => by
  have HW := hide (below_two hw hW)
  have RB := hide (row_next hW hB)
  replace hJ := hide hJ
  replace hY := hide hY
  replace T := hide T
  clear hJx hW hw hB
  refine callsIn_of_wp Tryd.func64 rfl trivial ?_ rfl
  simp only [Tryd.ntmps64, List.size_toArray, List.length_cons, List.length_nil, Nat.reduceAdd, Nat.reduceSub, Array.replicate_succ, Array.replicate_zero, List.push_toArray, List.append_toArray, List.nil_append, List.cons_append]
  gi_wp2
  gi_loopw [3, 4] (fun st i wr => ∃ (k : Nat) (q : Int) (pre : List Wd), st = .int .i64 q ∧ i = .int .i64 k ∧ Hid (FInv s k q pre) ∧ J pre wr ∧ Below w0.heap.size w0 wr ∧ wr.heap[B]? = some (.cells #[.string s] 9 (0, 0)) ∧ W.heap.size ≤ wr.heap.size) (fun _ i _ => s.size - (intOf i).toNat)
  case atStart => exact ⟨0, -1, [], rfl, rfl, FInv.start s, h0, unhide HW, unhide RB, Nat.le_refl _⟩
  case round =>
    clear h0 HW RB
    obtain ⟨k, q, pre, rfl, rfl, HI, hJp, hb, hR, hsz⟩ := hrel
    have c0 := row_at (j := 0) hR rfl
    have hkle := (unhide HI).kle
    have hpn := (unhide HI).n
    have hqs := (unhide HI).qs
    replace hb := hide hb
    replace hR := hide hR
    by_cases hlt : k < s.size
    · have hlt' : (k : Int) < (s.size : Int) := by omega
      have hmem : Hid (s[k] ∈ s.data.toList) := by
        have e := drop6 hlt
        exact List.mem_of_mem_drop (i := k) (by rw [e]; exact List.mem_cons_self)
      have hb256 : s[k].toNat < 256 := s[k].toNat_lt
      have t0 := ((unhide T).next (unhide hb)).space s[k]
      have hwr : IntKind.i32.wrap (s[k].toNat : Int) = (s[k].toNat : Int) := IntWalk.i32_in _ (by omega)
      by_cases h128 : s[k].toNat < 128
      · have h128' : ¬ (128 : Int) ≤ (s[k].toNat : Int) := by omega
        cases hS : Lib.isSp s[k] with
        | true =>
          rw [hS] at t0
          replace hS := hide hS
          simp only [if_true] at t0
          rcases hqs with rfl | ⟨hq0, hq1⟩
          · gi_wp2
            go_roundw
            case rel => exact ⟨k + 1, -1, pre, rfl, by go_num, (unhide HI).space0 hlt (fun hp => (hp _ (unhide hmem)).2 (unhide hS)) (Nat.le_refl _) hlt (fun _ => rfl), hJp, unhide hb, unhide hR, hsz⟩
            case measure => simp [intOf]; omega
          · obtain ⟨bg, rfl⟩ : ∃ bg : Nat, q = (bg : Int) := ⟨q.toNat, by omega⟩
            have hbk : bg < k := by omega
            have hz := wordAt_size s bg k hkle hs
            obtain ⟨wd, hwd⟩ : ∃ wd : Wd, wd = ⟨wordAt s bg k, hz⟩ := ⟨_, rfl⟩
            have hcut : ∀ w, (Instr.slice 9 (.string s) (some (.int .i64 (bg : Int))) (some (.int .i64 (k : Int))) none).run Tryd.prog w = .ok (.string wd.1) w := fun w => by rw [hwd]; exact run_cut6 s bg k (by omega) hkle w
            replace hwd := hide hwd
            obtain ⟨fn, tmps, assign, body, hy, hRn⟩ := unhide hY pre wd wr (hJp) (by omega)
            (try dsimp only at hy)
            gi_wp2
            refine hRn.mono ?_
            rintro e W3 (⟨rfl, hJ3, hk3⟩ | ⟨rfl, hJx3⟩)
            · gi_wp2
              go_roundw
              case rel => exact ⟨k + 1, -1, pre ++ [wd], rfl, by go_num, by rw [unhide hwd]; exact (unhide HI).space1 hlt hbk (fun hp => (hp _ (unhide hmem)).2 (unhide hS)) (Nat.le_refl _) hlt (fun _ => rfl) hz, hJ3, (unhide hb).trans hk3.1, hk3.2.trans (unhide hR), Nat.le_trans (hsz) hk3.1.size⟩
              case measure => simp [intOf]; omega
            · gi_wp2
              refine bodyPost_ret (results_none rfl _ _ _) rfl ?_
              exact ⟨⟨_, rfl⟩, .inr ⟨pre ++ [wd], by rw [unhide hwd]; exact (unhide HI).part hlt hbk (fun hp => (hp _ (unhide hmem)).2 (unhide hS)) hz, hJx3⟩⟩
        | false =>
          rw [hS] at t0
          replace hS := hide hS
          simp only [Bool.false_eq_true, if_false] at t0
          rcases hqs with rfl | ⟨hq0, hq1⟩
          · gi_wp2
            go_roundw
            case rel => exact ⟨k + 1, k, pre, rfl, by go_num, (unhide HI).mark hlt (fun _ e => by have h := unhide hS; rw [e] at h; revert h; decide) (Nat.le_refl _) hlt (fun _ => rfl), hJp, unhide hb, unhide hR, hsz⟩
            case measure => simp [intOf]; omega
          · obtain ⟨bg, rfl⟩ : ∃ bg : Nat, q = (bg : Int) := ⟨q.toNat, by omega⟩
            have hbk : bg < k := by omega
            have hq2 : ¬ (bg : Int) < 0 := by omega
            gi_wp2
            go_roundw
            case rel => exact ⟨k + 1, bg, pre, rfl, by go_num, (unhide HI).go hlt hbk (fun _ e => by have h := unhide hS; rw [e] at h; revert h; decide) (Nat.le_refl _) hlt (fun _ => rfl), hJp, unhide hb, unhide hR, hsz⟩
            case measure => simp [intOf]; omega
      · have h128' : (128 : Int) ≤ (s[k].toNat : Int) := by omega
        have hnp : ¬ Plain s.data.toList := fun hp => h128 ((hp _ (unhide hmem)).1)
        generalize (if Lib.isSp s[k] = true then (1 : Int) else 0) = tv at t0
        obtain ⟨d1, d2, d3⟩ := dec_bounds (s.extract k s.size) (by rw [ByteArray.size_extract]; omega)
        rw [ByteArray.size_extract] at d2
        have ED := hide (decodeRune_any (s.extract k s.size) wr ((unhide T).next (unhide hb)).u8)
        have hdr : ∀ w, (Instr.slice 9 (.string s) (some (.int .i64 (k : Int))) none none).run Tryd.prog w = .ok (.string (s.extract k s.size)) w := fun w => by
          rw [run_slice_string_from_if w 9 s .i64 k Tryd.underlying9, if_pos ⟨by omega, by omega⟩]
          rfl
        have ES := hide (fun u hu => Tryd.unicode_IsSpace_any ((Lib.decodeGo (s.extract k s.size)).1 : Int) u (by omega) (by omega) hu)
        generalize (Lib.decodeGo (s.extract k s.size)).1 = rn at ED ES d3
        generalize (Lib.decodeGo (s.extract k s.size)).2 = wd0 at ED d1 d2
        generalize Lib.isSpaceZ (rn : Int) = ok at ES
        have hwk : IntKind.i64.wrap ((k : Int) + (wd0 : Int)) = (k : Int) + (wd0 : Int) := IntWalk.i64_in _ (by omega)
        have hpl : Hid (J pre wr) := hJp
        generalize s.extract k s.size = tl at ED hdr
        gi_wp2_with (refine ⟨trivial, ?_⟩; gi_at_call 65; refine (callsIn_wide.2 (unhide ED)).mono ?_; rintro e w2 ⟨rfl, hb2⟩)
        have RB2 := hide (row_next hb2 (unhide hR))
        have J2 := hide (unhide hJ pre wr w2 none (unhide hpl) (grows_by hb2 none) (by simp))
        have B2 := hide (below_two (unhide hb) hb2)
        have Z2 := Nat.le_trans hsz hb2.size
        clear hb2
        cases ok with
        | true =>
          rcases hqs with rfl | ⟨hq0, hq1⟩
          · gi_wp2_with (refine ⟨trivial, ?_⟩; gi_at_call 66; refine (callsIn_wide.2 (unhide ES _ ((unhide T).next (unhide B2)).wh)).mono ?_; rintro e w3 ⟨rfl, hb3⟩; have RB3 := hide (row_next hb3 (unhide RB2)); have J3 := hide (unhide hJ pre w2 w3 none (unhide J2) (grows_by hb3 none) (by simp)); have B3 := hide (below_two (unhide B2) hb3); have Z3 := Nat.le_trans Z2 hb3.size; clear hb3; have c3 := row_at (j := 0) (unhide RB3) rfl)
            go_roundw
            case rel => exact ⟨k + wd0, -1, pre, rfl, by go_num, (unhide HI).space0 hlt (fun hp => absurd hp hnp) d1 (by omega) (fun hp => absurd hp hnp), unhide J3, unhide B3, unhide RB3, Z3⟩
            case measure => simp [intOf]; omega
          · obtain ⟨bg, rfl⟩ : ∃ bg : Nat, q = (bg : Int) := ⟨q.toNat, by omega⟩
            have hbk : bg < k := by omega
            have hz := wordAt_size s bg k hkle hs
            obtain ⟨wd, hwd⟩ : ∃ wd : Wd, wd = ⟨wordAt s bg k, hz⟩ := ⟨_, rfl⟩
            have hcut : ∀ w, (Instr.slice 9 (.string s) (some (.int .i64 (bg : Int))) (some (.int .i64 (k : Int))) none).run Tryd.prog w = .ok (.string wd.1) w := fun w => by rw [hwd]; exact run_cut6 s bg k (by omega) hkle w
            replace hwd := hide hwd
            gi_wp2_with (refine ⟨trivial, ?_⟩; gi_at_call 66; refine (callsIn_wide.2 (unhide ES _ ((unhide T).next (unhide B2)).wh)).mono ?_; rintro e w3 ⟨rfl, hb3⟩; have RB3 := hide (row_next hb3 (unhide RB2)); have J3 := hide (unhide hJ pre w2 w3 none (unhide J2) (grows_by hb3 none) (by simp)); have B3 := hide (below_two (unhide B2) hb3); have Z3 := Nat.le_trans Z2 hb3.size; clear hb3; have c3 := row_at (j := 0) (unhide RB3) rfl; obtain ⟨fn, tmps, assign, body, hy, hRn⟩ := unhide hY pre wd w3 (unhide J3) (by omega); (try dsimp only at hy))
            refine hRn.mono ?_
            rintro e W3 (⟨rfl, hJ3, hk3⟩ | ⟨rfl, hJx3⟩)
            · gi_wp2
              go_roundw
              case rel => exact ⟨k + wd0, -1, pre ++ [wd], rfl, by go_num, by rw [unhide hwd]; exact (unhide HI).space1 hlt hbk (fun hp => absurd hp hnp) d1 (by omega) (fun hp => absurd hp hnp) hz, hJ3, (unhide B3).trans hk3.1, hk3.2.trans (unhide RB3), Nat.le_trans (Z3) hk3.1.size⟩
              case measure => simp [intOf]; omega
            · gi_wp2
              refine bodyPost_ret (results_none rfl _ _ _) rfl ?_
              exact ⟨⟨_, rfl⟩, .inr ⟨pre ++ [wd], by rw [unhide hwd]; exact (unhide HI).part hlt hbk (fun hp => absurd hp hnp) hz, hJx3⟩⟩
        | false =>
          rcases hqs with rfl | ⟨hq0, hq1⟩
          · gi_wp2_with (refine ⟨trivial, ?_⟩; gi_at_call 66; refine (callsIn_wide.2 (unhide ES _ ((unhide T).next (unhide B2)).wh)).mono ?_; rintro e w3 ⟨rfl, hb3⟩; have RB3 := hide (row_next hb3 (unhide RB2)); have J3 := hide (unhide hJ pre w2 w3 none (unhide J2) (grows_by hb3 none) (by simp)); have B3 := hide (below_two (unhide B2) hb3); have Z3 := Nat.le_trans Z2 hb3.size; clear hb3; have c3 := row_at (j := 0) (unhide RB3) rfl)
            go_roundw
            case rel => exact ⟨k + wd0, k, pre, rfl, by go_num, (unhide HI).mark hlt (fun hp => absurd hp hnp) d1 (by omega) (fun hp => absurd hp hnp), unhide J3, unhide B3, unhide RB3, Z3⟩
            case measure => simp [intOf]; omega
          · obtain ⟨bg, rfl⟩ : ∃ bg : Nat, q = (bg : Int) := ⟨q.toNat, by omega⟩
            have hbk : bg < k := by omega
            have hq2 : ¬ (bg : Int) < 0 := by omega
            gi_wp2_with (refine ⟨trivial, ?_⟩; gi_at_call 66; refine (callsIn_wide.2 (unhide ES _ ((unhide T).next (unhide B2)).wh)).mono ?_; rintro e w3 ⟨rfl, hb3⟩; have RB3 := hide (row_next hb3 (unhide RB2)); have J3 := hide (unhide hJ pre w2 w3 none (unhide J2) (grows_by hb3 none) (by simp)); have B3 := hide (below_two (unhide B2) hb3); have Z3 := Nat.le_trans Z2 hb3.size; clear hb3; have c3 := row_at (j := 0) (unhide RB3) rfl)
            go_roundw
            case rel => exact ⟨k + wd0, bg, pre, rfl, by go_num, (unhide HI).go hlt hbk (fun hp => absurd hp hnp) d1 (by omega) (fun hp => absurd hp hnp), unhide J3, unhide B3, unhide RB3, Z3⟩
            case measure => simp [intOf]; omega
    · obtain rfl : k = s.size := by omega
      have hlt' : ¬ (s.size : Int) < (s.size : Int) := by omega
      rcases hqs with rfl | ⟨hq0, hq1⟩
      · gi_wp2
        go_end0
        exact ⟨⟨_, rfl⟩, .inl ⟨pre, (unhide HI).done, hJp⟩⟩
      · obtain ⟨bg, rfl⟩ : ∃ bg : Nat, q = (bg : Int) := ⟨q.toNat, by omega⟩
        have hbk : bg < s.size := by omega
        have hz := wordAt_size s bg s.size hkle hs
        obtain ⟨fn, tmps, assign, body, hy, hRn⟩ := unhide hY pre ⟨wordAt s bg s.size, hz⟩ wr hJp (by omega)
        dsimp only at hy
        have hcut : ∀ w, (Instr.slice 9 (.string s) (some (.int .i64 (bg : Int))) none none).run Tryd.prog w = .ok (.string (wordAt s bg s.size)) w := fun w => by
          rw [run_slice_string_from_if w 9 s .i64 bg Tryd.underlying9, if_pos ⟨by omega, by omega⟩]
          have : s.extract (bg : Int).toNat s.size = s.extract bg s.size := rfl
          rw [this, ext6]; rfl
        have hF := (unhide HI).last hbk hz
        generalize wordAt s bg s.size = wd at hy hcut
        gi_wp2
        refine hRn.mono ?_
        rintro e W3 (⟨rfl, hJ3, hk3⟩ | ⟨rfl, hJx3⟩)
        · gi_wp2
          go_end0
          exact ⟨⟨_, rfl⟩, .inl ⟨_, hF, hJ3⟩⟩
        · gi_wp2
          go_end0
          exact ⟨⟨_, rfl⟩, .inr ⟨_, hF.part, hJx3⟩⟩
end Go.Proofs.YtkhacppaemilgaaDoor
