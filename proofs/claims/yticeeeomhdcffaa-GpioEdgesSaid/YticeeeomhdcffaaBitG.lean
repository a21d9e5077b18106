/-
  Bits of bytes, as a program may spell them: shifted right, one bit; masks. Plain mathematics.
-/
import Derived.Test.YticeeeomhdcffaaEdgesM
namespace Go.Proofs.Yticeeeomhdcffaa
open Go.RowKit
set_option linter.unusedVariables false
/-- 'v >> n & 1'. -/
theorem bit_shr (v n : Nat) (h : v < 256) : bits .and .u8 ((v : Int) / 2 ^ n) 1 = if bitB v n then 1 else 0 := by
  have e : (v : Int) / 2 ^ n = ((v / 2 ^ n : Nat) : Int) := by simp
  have hl : v / 2 ^ n < 256 := Nat.lt_of_le_of_lt (Nat.div_le_self _ _) h
  have := u8_and_nat (v / 2 ^ n) 1 hl (by decide)
  rw [e, show (1 : Int) = ((1 : Nat) : Int) from rfl, this, Nat.and_one_is_mod]
  unfold bitB
  rcases Nat.mod_two_eq_zero_or_one (v / 2 ^ n) with h0 | h0 <;> simp [h0]
/-- What rises and is looked at, as a mask. -/
theorem asks_mask (e i l : Nat) (hi : i < 256) (hl : l < 256) : asksL e (riseK i l 8) = ((l &&& (255 - i)) &&& e != 0) := by
  rw [← or_rises i l hi hl, Bool.eq_iff_iff, asksL, List.any_eq_true, bne_iff_ne]
  constructor
  · rintro ⟨n, hn, hb⟩ h0
    have := congrArg (fun x => x.testBit n) h0
    rw [bitB_testBit] at hb
    simp only [Nat.testBit_and, orL_bit, hn, hb, decide_true, Bool.and_self, Nat.zero_testBit] at this
    cases this
  · intro hne
    obtain ⟨n, hn⟩ := Nat.exists_testBit_of_ne_zero hne
    rw [Nat.testBit_and, orL_bit, Bool.and_eq_true, decide_eq_true_iff] at hn
    exact ⟨n, hn.1, by rw [bitB_testBit]; exact hn.2⟩
/-- A pin rises: its bit in 'is &^ was'. -/
theorem rises_mask (i l n : Nat) (hi : i < 256) (hn : n < 8) : bitB (l &&& (255 - i)) n = (!bitB i n && bitB l n) := by
  rw [bitB_testBit, bitB_testBit, bitB_testBit, Nat.testBit_and, show 255 - i = 2 ^ 8 - (i + 1) by omega, Nat.testBit_two_pow_sub_succ (by omega)]
  simp only [hn, decide_true, Bool.true_and]
  rw [Bool.and_comm]
end Go.Proofs.Yticeeeomhdcffaa
