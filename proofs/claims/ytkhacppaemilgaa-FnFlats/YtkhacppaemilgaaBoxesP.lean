/-
  What joining, meeting and growing boxes keeps: the sums behind the law on boxes.
-/
import Derived.Test.YtkhacppaemilgaaJoinS
import Derived.Test.YtkhacppaemilgaaMeetS
import Derived.Test.YtkhacppaemilgaaGrowI
namespace Go.Proofs.Ytkhacppaemilgaa
open Go.RowKit

theorem eqlBox (w : World) (a b c d e f g h : Int) :
    (Op.equalIn 10000 29 (.agg #[.int .i64 a, .int .i64 b, .int .i64 c, .int .i64 d]) (.agg #[.int .i64 e, .int .i64 f, .int .i64 g, .int .i64 h])).run Try.prog w = .ok (decide (a = e) && (decide (b = f) && (decide (c = g) && decide (d = h)))) w := by
  have u3 := Try.underlying3
  have a3 := Try.isAgg3
  have z3 := Try.sizeOf3
  have hS : Try.prog.underlying 29 = some (.struct (Try.prog.fieldsOf 29)) := by kernel_rfl
  rw [show (10000 : Nat) = 9999 + 1 from rfl, run_equalIn_agg w 9999 29 _ _ hS (by kernel_rfl)]
  simp only [Program.fieldsOf, Try.underlying29]
  go_simp
  by_cases h1 : a = e
  · by_cases h2 : b = f
    · by_cases h3 : c = g
      · by_cases h4 : d = h <;> simp [h1, h2, h3, h4]
      · simp [h1, h2, h3]
    · simp [h1, h2]
  · simp [h1]

theorem inBox_iff (a b c d x y : Int) : inBoxB a b c d x y = true ↔ (a ≤ x ∧ x < c ∧ b ≤ y ∧ y < d) := by simp [inBoxB]
theorem empty_iff (a b c d : Int) : emptyB a b c d = true ↔ (c ≤ a ∨ d ≤ b) := by simp [emptyB]
theorem full_iff (a b c d : Int) : emptyB a b c d = false ↔ (a < c ∧ b < d) := by simp [emptyB]

theorem join_comm (a b c d e f g h : Int) : join0 e f g h a b c d = join0 a b c d e f g h ∧ join1 e f g h a b c d = join1 a b c d e f g h ∧ join2 e f g h a b c d = join2 a b c d e f g h ∧ join3 e f g h a b c d = join3 a b c d e f g h := by
  unfold join0 join1 join2 join3
  cases emptyB a b c d <;> cases emptyB e f g h <;> simp only [cond_true, cond_false, leastI, mostI, and_self]
  refine ⟨?_, ?_, ?_, ?_⟩ <;> (split <;> split <;> omega)
theorem meet_comm (a b c d e f g h : Int) : meet0 e f g h a b c d = meet0 a b c d e f g h ∧ meet1 e f g h a b c d = meet1 a b c d e f g h ∧ meet2 e f g h a b c d = meet2 a b c d e f g h ∧ meet3 e f g h a b c d = meet3 a b c d e f g h := by
  have m (p q : Int) : mostI q p = mostI p q := by unfold mostI; split <;> split <;> omega
  have l (p q : Int) : leastI q p = leastI p q := by unfold leastI; split <;> split <;> omega
  unfold meet0 meet1 meet2 meet3 meetNo
  rw [m a e, m b f, l c g, l d h]
  exact ⟨rfl, rfl, rfl, rfl⟩
theorem in_full {a b c d x y : Int} (h : inBoxB a b c d x y = true) : emptyB a b c d = false := by
  rw [inBox_iff] at h; rw [full_iff]; omega
theorem in_join {a b c d e f g h x y : Int} (hi : (inBoxB a b c d x y || inBoxB e f g h x y) = true) : inBoxB (join0 a b c d e f g h) (join1 a b c d e f g h) (join2 a b c d e f g h) (join3 a b c d e f g h) x y = true := by
  unfold join0 join1 join2 join3
  cases h1 : emptyB a b c d <;> cases h2 : emptyB e f g h <;> simp only [cond_true, cond_false]
  · rw [Bool.or_eq_true, inBox_iff, inBox_iff] at hi
    rw [full_iff] at h1 h2
    rw [inBox_iff]
    unfold leastI mostI
    refine ⟨?_, ?_, ?_, ?_⟩ <;> split <;> omega
  · rw [Bool.or_eq_true] at hi
    rcases hi with hi | hi
    · exact hi
    · rw [in_full hi] at h2; exact absurd h2 (by decide)
  · rw [Bool.or_eq_true] at hi
    rcases hi with hi | hi
    · rw [in_full hi] at h1; exact absurd h1 (by decide)
    · exact hi
  · rw [Bool.or_eq_true] at hi
    rcases hi with hi | hi
    · rw [in_full hi] at h1; exact absurd h1 (by decide)
    · rw [in_full hi] at h2; exact absurd h2 (by decide)
theorem in_meet (a b c d e f g h x y : Int) : inBoxB (meet0 a b c d e f g h) (meet1 a b c d e f g h) (meet2 a b c d e f g h) (meet3 a b c d e f g h) x y = (inBoxB a b c d x y && inBoxB e f g h x y) := by
  unfold meet0 meet1 meet2 meet3
  rw [Bool.eq_iff_iff, Bool.and_eq_true, inBox_iff, inBox_iff]
  cases hm : meetNo a b c d e f g h <;> simp only [cond_true, cond_false]
  · rw [inBox_iff]
    unfold leastI mostI
    repeat' split
    all_goals omega
  · unfold meetNo at hm
    rw [empty_iff] at hm
    rw [inBox_iff]
    unfold leastI mostI at hm
    revert hm
    repeat' split
    all_goals omega
theorem in_grow {a b c d x y : Int} (a0 : 0 ≤ a) (a1 : a ≤ 99) (b0 : 0 ≤ b) (b1 : b ≤ 99) (c0 : 0 ≤ c) (c1 : c ≤ 99) (d0 : 0 ≤ d) (d1 : d ≤ 99) (hi : inBoxB a b c d x y = true) :
    inBoxB (bif emptyB a b c d then 0 else lessI a 2) (bif emptyB a b c d then 0 else lessI b 2) (bif emptyB a b c d then 0 else moreI c 2) (bif emptyB a b c d then 0 else moreI d 2) (x + 2) (y - 1) = true := by
  have l (p : Int) (h0 : 0 ≤ p) (h1 : p ≤ 99) : lessI p 2 = p - 2 := by
    unfold lessI clampI
    rw [if_neg (by omega), if_neg (by omega), if_neg (by omega), if_neg (by omega), if_neg (by omega), if_neg (by omega)]
  have m (p : Int) (h0 : 0 ≤ p) (h1 : p ≤ 99) : moreI p 2 = p + 2 := by
    unfold moreI clampI
    rw [if_neg (by omega), if_neg (by omega), if_neg (by omega), if_neg (by omega), if_neg (by omega), if_neg (by omega)]
  rw [in_full hi, l a a0 a1, l b b0 b1, m c c0 c1, m d d0 d1]
  simp only [cond_false]
  rw [inBox_iff] at hi ⊢
  omega
theorem join_meet {a b c d e f g h : Int} (hm : emptyB (meet0 a b c d e f g h) (meet1 a b c d e f g h) (meet2 a b c d e f g h) (meet3 a b c d e f g h) = false) :
    join0 (meet0 a b c d e f g h) (meet1 a b c d e f g h) (meet2 a b c d e f g h) (meet3 a b c d e f g h) a b c d = a ∧ join1 (meet0 a b c d e f g h) (meet1 a b c d e f g h) (meet2 a b c d e f g h) (meet3 a b c d e f g h) a b c d = b ∧ join2 (meet0 a b c d e f g h) (meet1 a b c d e f g h) (meet2 a b c d e f g h) (meet3 a b c d e f g h) a b c d = c ∧ join3 (meet0 a b c d e f g h) (meet1 a b c d e f g h) (meet2 a b c d e f g h) (meet3 a b c d e f g h) a b c d = d := by
  unfold join0 join1 join2 join3
  rw [hm]
  unfold meet0 meet1 meet2 meet3 at hm ⊢
  cases hn : meetNo a b c d e f g h
  · rw [hn] at hm
    simp only [cond_false] at hm ⊢
    rw [full_iff] at hm
    have ha : emptyB a b c d = false := by
      rw [full_iff]
      unfold leastI mostI at hm
      revert hm
      repeat' split
      all_goals omega
    rw [ha]
    simp only [cond_false]
    unfold leastI mostI
    refine ⟨?_, ?_, ?_, ?_⟩ <;> (repeat' split) <;> omega
  · rw [hn] at hm
    exact absurd hm (by simp [emptyB])
end Go.Proofs.Ytkhacppaemilgaa
