/-
  What BankApart's walk wants: what an act on one register leaves of the others. Plain mathematics.
-/
import Derived.Test.YtkodoldkfeopdaaKm
namespace Go.Proofs.Ytkodoldkfeopdaa
open Go.RowKit
set_option linter.unusedVariables false
theorem write_apart (b : Bk) (r v i : Int) (h : r < 0 ∨ 14 < r ∨ i / 3 ≠ r / 3) : peekB (writeB b r v) i = peekB b i := by
  unfold writeB
  split
  · have hi : ¬ (0 ≤ i ∧ i ≤ 2) := by omega
    simp only [peekB, if_neg hi]
  · split
    · have hi : ¬ (3 ≤ i ∧ i ≤ 5) := by omega
      simp only [peekB, if_neg hi]
    · split
      · have hi : ¬ (6 ≤ i ∧ i ≤ 8) := by omega
        simp only [peekB, if_neg hi]
      · split
        · have hi : ¬ (9 ≤ i ∧ i ≤ 11) := by omega
          simp only [peekB, if_neg hi]
        · split
          · have hi : ¬ (12 ≤ i ∧ i ≤ 14) := by omega
            simp only [peekB, if_neg hi]
          · rfl
theorem read_apart (b : Bk) (r i : Int) (h : r / 3 ≠ 1 ∨ i / 3 ≠ 1) : peekB (readB b r) i = peekB b i := by
  unfold readB
  split
  · have hi : ¬ (3 ≤ i ∧ i ≤ 5) := by omega
    simp only [peekB, if_neg hi]
  · rfl
theorem unknown_b (b : Bk) (r v : Int) (h : r < 0 ∨ 14 < r) : writeB b r v = b ∧ readB b r = b ∧ peekB b r = 0 := by
  refine ⟨?_, ?_, ?_⟩
  · unfold writeB
    rw [if_neg (by omega), if_neg (by omega), if_neg (by omega), if_neg (by omega), if_neg (by omega)]
  · unfold readB
    rw [if_neg (by omega)]
  · unfold peekB
    rw [if_neg (by omega), if_neg (by omega), if_neg (by omega), if_neg (by omega), if_neg (by omega)]
/-- The quotient by three, as the program takes it. -/
theorem tdiv3 (i : Int) (h : 0 ≤ i) : i.tdiv 3 = i / 3 := Int.tdiv_eq_ediv_of_nonneg h
/-- A value of an array of all registers. -/
theorem all_at (b : Bk) (i : Nat) (h : i < 15) : (allB b)[i]? = some (.int .i32 (peekB b (i : Int))) := by
  unfold allB
  rw [List.getElem?_map, List.getElem?_range h]
  rfl
theorem all_length (b : Bk) : (allB b).length = 15 := by simp [allB]
theorem all_one (b : Bk) : ∀ u ∈ allB b, u.oneCell' = true := by
  intro u hu
  obtain ⟨x, -, rfl⟩ := List.mem_map.1 hu
  rfl
end Go.Proofs.Ytkodoldkfeopdaa
