/-
  The numbers of a set, rising: the lowest one, and those of the set without it.
-/
import Derived.Test.YtchhbhgbpimegaaDoorTz
namespace Go.Proofs.YtchhbhgbpimegaaDoor
/-- The numbers of a set, rising. -/
def bitsL (x : Nat) : List Nat := (List.range 64).filter x.testBit
theorem bitsL_zero : bitsL 0 = [] := by simp [bitsL]
theorem mem_bitsL (x i : Nat) (hx : x < 18446744073709551616) : i ∈ bitsL x ↔ x.testBit i = true := by
  simp only [bitsL, List.mem_filter, List.mem_range]
  refine ⟨fun h => h.2, fun h => ⟨?_, h⟩⟩
  refine Nat.lt_of_not_le fun hi => ?_
  have h2 : x < 2 ^ i := Nat.lt_of_lt_of_le (show x < 2 ^ 64 by omega) (Nat.pow_le_pow_right (by decide) hi)
  rw [Nat.testBit_lt_two_pow h2] at h
  cases h
theorem bitsL_step (x y k : Nat) (hk : k < 64) (h1 : x.testBit k = true) (h2 : ∀ i, i < k → x.testBit i = false) (hy : y.testBit k = false) (ho : ∀ i, i ≠ k → y.testBit i = x.testBit i) : bitsL x = k :: bitsL y := by
  have hr : List.range 64 = List.range k ++ k :: (List.range' (k + 1) (63 - k)) := by
    rw [List.range_eq_range', List.range_eq_range', show (64 : Nat) = k + (1 + (63 - k)) from by omega, ← List.range'_append_1, Nat.zero_add, Nat.add_comm 1, List.range'_succ]
  have a1 : (List.range k).filter x.testBit = [] := by
    rw [List.filter_eq_nil_iff]
    intro i hi
    rw [h2 i (List.mem_range.1 hi)]
    decide
  have a2 : (List.range k).filter y.testBit = [] := by
    rw [List.filter_eq_nil_iff]
    intro i hi
    have := List.mem_range.1 hi
    rw [ho i (by omega), h2 i this]
    decide
  have a3 : (List.range' (k + 1) (63 - k)).filter y.testBit = (List.range' (k + 1) (63 - k)).filter x.testBit := by
    apply List.filter_congr
    intro i hi
    have := (List.mem_range'_1.1 hi).1
    exact ho i (by omega)
  unfold bitsL
  rw [hr, List.filter_append, List.filter_append, a1, a2, List.filter_cons, List.filter_cons, h1, hy, a3]
  simp
theorem bitsL_least (x : Nat) (hx : x < 18446744073709551616) (hx0 : x ≠ 0) : bitsL x = Lib.ctz 64 x :: bitsL (without x (Lib.ctz 64 x)) := by
  obtain ⟨h1, h2, h3⟩ := ctz_bits x hx hx0
  refine bitsL_step x _ _ h1 h2 h3 ?_ ?_
  · rw [without_bit x _ _ hx h1]
    simp
  · intro i hi
    rw [without_bit x _ _ hx h1]
    simp only [show decide (Lib.ctz 64 x = i) = false from decide_eq_false (fun h => hi h.symm), Bool.not_false, Bool.and_true]
end Go.Proofs.YtchhbhgbpimegaaDoor
