/-
  What IrqKeeps' walk wants of bits. Plain mathematics.
-/
import Derived.Test.YtcdomelfmkbloaaFill
namespace Go.Proofs.Ytcdomelfmkbloaa
open Go.RowKit
set_option linter.unusedVariables false
theorem shr_val (b v : Nat) : ((b : Int) / 2 ^ v).tmod 2 = if b.testBit v = true then 1 else 0 := by
  have h1 : ((b : Int) / 2 ^ v) = ((b / 2 ^ v : Nat) : Int) := by simp
  rw [h1, Nat.testBit_eq_decide_div_mod_eq]
  generalize b / 2 ^ v = x
  rw [Int.tmod_eq_emod_of_nonneg (by omega)]
  simp only [decide_eq_true_eq]
  split <;> omega
theorem may_split (c : Ic) (ps : List Int) (lev : Int) (mk j : Nat) (hj : j < 8) (hk : mk < 256) (hl : 0 ≤ lev) : mayI c ps lev mk j = (((c.p &&& c.m) &&& (255 - mk)).testBit j && decide (lev < prio ps j)) := by
  unfold mayI
  rw [Nat.testBit_and, Nat.testBit_and, not_bit mk j hk hj]
  by_cases h : lev < prio ps j
  · rw [decide_eq_true h, decide_eq_true (show 0 < prio ps j by omega), Bool.and_true, Bool.and_true]
  · rw [decide_eq_false h, Bool.and_false, Bool.and_false]
/-- How many are requested. -/
def cnt (p : Nat) : Nat := ((List.range 8).filter fun v => p.testBit v).length
set_option maxRecDepth 100000 in
theorem cnt_all : ∀ p : Fin 256, ∀ m : Fin 8, p.val.testBit m.val = true → cnt (p.val &&& (255 - 2 ^ m.val)) + 1 = cnt p.val := by decide +kernel
theorem cnt_taken (p m : Nat) (hp : p < 256) (hm : m < 8) (h : p.testBit m = true) : cnt (p &&& (255 - 2 ^ m)) + 1 = cnt p := cnt_all ⟨p, hp⟩ ⟨m, hm⟩ h
theorem cnt_le (p : Nat) : cnt p ≤ 8 := by
  unfold cnt
  exact Nat.le_trans (List.length_filter_le _ _) (by simp)
theorem pow_lt256 (m : Nat) (hm : m < 8) : 2 ^ m < 256 := Nat.pow_lt_pow_of_lt (a := 2) (n := m) (m := 8) (by decide) hm
theorem andNot_pow (p m : Nat) (hp : p < 256) (hm : m < 8) : bits .andNot .u8 (p : Int) ((2 : Int) ^ m) = ((p &&& (255 - 2 ^ m) : Nat) : Int) := by
  have h1 := u8_andNot_nat p (2 ^ m) hp (pow_lt256 m hm)
  rw [show ((2 ^ m : Nat) : Int) = (2 : Int) ^ m from by simp] at h1
  exact h1
/-- Fewer are requested: fewer may be taken. -/
theorem may_fewer (p b : Nat) (ps : List Int) (v : Nat) (h : mayI ⟨255, p &&& b⟩ ps 0 0 v = true) : mayI ⟨255, p⟩ ps 0 0 v = true := by
  rw [mayI_iff] at h ⊢
  obtain ⟨h1, h2⟩ := h
  refine ⟨?_, h2⟩
  have h3 : (p &&& b).testBit v = true := h1
  rw [Nat.testBit_and, Bool.and_eq_true] at h3
  exact h3.1
/-- Acts, as they lie in memory: three bytes each. -/
def Acts3 (w : World) (A : Option Addr) (len : Nat) : Prop := ∀ j, j < len → ∃ a, A = some a ∧ a.block < w.heap.size ∧ ∃ x y z : Nat, x < 256 ∧ y < 256 ∧ z < 256 ∧ w.cell? (a.add (j * 3)) = some (.int .u8 (x : Int)) ∧ w.cell? ((a.add (j * 3)).add 1) = some (.int .u8 (y : Int)) ∧ w.cell? ((a.add (j * 3)).add 2) = some (.int .u8 (z : Int))
theorem lowN_byte (b : Nat) (h : b < 256) : lowN (b : Int) = b := by unfold lowN; omega
theorem lowN_plus (b : Nat) (h : b < 256) : lowN ((b : Int) + 256) = b := by unfold lowN; omega
end Go.Proofs.Ytcdomelfmkbloaa
