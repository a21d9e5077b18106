/-
  A set of bits: remove by its contract.
-/
import Derived.Test.YtchhbhgbpimegaaDoorSet
namespace Go.Proofs.YtchhbhgbpimegaaDoor
open Go.RowKit
set_option linter.unusedVariables false
/-- x without n. -/
def without (x n : Nat) : Nat := x &&& (18446744073709551615 - 2 ^ n)
theorem without_bit (x n i : Nat) (hx : x < 18446744073709551616) (hn : n < 64) : (without x n).testBit i = (x.testBit i && !decide (n = i)) := by
  have h3 : (18446744073709551615 - 2 ^ n : Nat) = 2 ^ 64 - (2 ^ n + 1) := by
    have : (2 : Nat) ^ 64 = 18446744073709551616 := by decide
    omega
  have h4 : 2 ^ n < 2 ^ 64 := Nat.pow_lt_pow_right (by decide) hn
  rw [without, h3, Nat.testBit_and, Nat.testBit_two_pow_sub_succ h4, Nat.testBit_two_pow]
  by_cases hi : i < 64
  · simp [hi]
  · have : x.testBit i = false := Nat.testBit_lt_two_pow (Nat.lt_of_lt_of_le hx (Nat.pow_le_pow_right (n := 2) (i := 64) (by decide) (by omega)))
    simp [this]
theorem bits_without (x n q : Nat) (hx : x < 18446744073709551616) (hq : q < 18446744073709551616) (he : 2 ^ n = q) : bits BinOp.andNot IntKind.u64 (x : Int) (q : Int) = ((without x n : Nat) : Int) ∧ without x n < 18446744073709551616 := by
  have hx1 : x &&& (18446744073709551615 - q) < 2 ^ 64 := Nat.and_lt_two_pow _ (by omega)
  have h1 : (BitVec.ofInt 64 (x : Int)).toNat = x := by
    rw [BitVec.ofInt_natCast, BitVec.toNat_ofNat]
    exact Nat.mod_eq_of_lt (by omega)
  have h2 : (BitVec.ofInt 64 (q : Int)).toNat = q := by
    rw [BitVec.ofInt_natCast, BitVec.toNat_ofNat]
    exact Nat.mod_eq_of_lt (by omega)
  have h3 : (~~~ BitVec.ofInt 64 (q : Int)).toNat = 18446744073709551615 - q := by
    rw [BitVec.toNat_not, h2]
  have h5 : (2 : Nat) ^ 64 = 18446744073709551616 := by decide
  rw [without, he]
  refine ⟨?_, by omega⟩
  show IntKind.u64.wrap ((BitVec.ofInt 64 (x : Int) &&& ~~~ BitVec.ofInt 64 (q : Int)).toNat : Int) = _
  rw [BitVec.toNat_and, h1, h3, IntKind.wrap_u64]
  omega
/-- What remove leaves. -/
def RemAns (p lv wb x n : Nat) (w : World) (e : Ending) (w' : World) : Prop := e = .returned (.tuple #[]) ∧ IsSet w' p lv wb (without x n) ∧ Touch wb w w'
set_option maxRecDepth 100000 in
theorem remove_any (p lv wb x n : Nat) (w : World) (hn : n < 64) (h : IsSet w p lv wb x) : Calls Tryd.prog 45 #[.pointer (some ⟨p, 0, none⟩), .int .i64 n] w (RemAns p lv wb x n w) := by
  have HI := Lib.hid h
  have hx := h.lt
  obtain ⟨c, hr⟩ := h.row
  have c0 := row_at hr 0 _ rfl
  obtain ⟨q, hq⟩ : ∃ q, 2 ^ n = q := ⟨_, rfl⟩
  have hq2 : q < 18446744073709551616 := hq ▸ bit_lt n hn
  have HB : Hid (∀ w, Calls Tryd.prog 41 #[.int .i64 n] w fun e w' => e = .returned (.int .u64 q) ∧ w' = w) := fun w => bit_at n q w hn hq
  have hd : (n : Int).tdiv 64 = 0 := by
    rw [Int.tdiv_eq_ediv_of_nonneg (by omega)]
    omega
  obtain ⟨ho, ho2⟩ := bits_without x n q hx hq2 hq
  obtain ⟨o, hoo⟩ : ∃ o, without x n = o := ⟨_, rfl⟩
  have HO := Lib.hid hoo
  rw [hoo] at ho ho2
  clear h hr hq hoo
  go_enter Tryd.func45, Tryd.ntmps45
  go_wp2
  go_loopw [1, 11] (fun nv iv wr => iv = .int .i64 0 ∧ nv = .int .i64 n ∧ IsSet wr p lv wb x ∧ Touch wb w wr ∨ iv = .int .i64 1 ∧ nv = .int .i64 0 ∧ IsSet wr p lv wb o ∧ Touch wb w wr) (fun _ iv _ => 1 - (intOf iv).toNat)
  case atStart => exact .inl ⟨rfl, rfl, HI.out, Touch.refl wb w⟩
  case round =>
    rcases hrel with ⟨rfl, rfl, hi, ht⟩ | ⟨rfl, rfl, hi, ht⟩
    · have HI2 := Lib.hid hi
      have HT2 := Lib.hid ht
      obtain ⟨rest2, hl2⟩ := hi.lev
      have c4 := row_at hl2 0 _ rfl
      have c5 := row_at hi.word 0 _ rfl
      have c6 : wr.frozen? ⟨wb, 0, none⟩ = false := row_free hi.word
      clear hi ht hl2 c0
      have HF : Hid (IsSet (wr.setCell ⟨wb, 0, none⟩ (.int .u64 o)).drew p lv wb o ∧ Touch wb w (wr.setCell ⟨wb, 0, none⟩ (.int .u64 o)).drew) := ⟨HI2.out.set ((Touch.refl wb wr).set 0 _).drew ho2 (one_u64 _ HI2.out.word), HT2.out.trans ((Touch.refl wb wr).set 0 _).drew⟩
      go_wp2
      go_region_with (go_at_call 41; refine (HB.out _).mono ?_; rintro e w' ⟨rfl, rfl⟩)
      all_goals
        cases hz : ((o : Int) != 0)
        · go_wp2
          go_roundw
          case rel => exact .inr ⟨by go_num, by go_num, HF.out⟩
          case measure =>
            simp [intOf]
        · go_wp2
          go_end0
          exact ⟨rfl, by rw [HO.out]; exact HF.out.1, HF.out.2⟩
    · go_wp2
      go_end0
      exact ⟨rfl, by rw [HO.out]; exact hi, ht⟩
end Go.Proofs.YtchhbhgbpimegaaDoor
