/-
  The limits of the chapter's examples, reckoned. No condition.
-/
import Derived.Test.YtmebcenjghagoaaGreatDoorWorks
import Derived.Lib.Repeat
namespace Go.Proofs.YtmebcenjghagoaaGreatDoor
open Go.RowKit
/-- A text of blanks alone. -/
def blanks (n : Nat) : ByteArray := ⟨(Lib.repeatL (⟨#[32]⟩ : ByteArray).data.toList n).toArray⟩
theorem blanks_size (n : Nat) : (blanks n).size = n := by
  show (Lib.repeatL (⟨#[32]⟩ : ByteArray).data.toList n).toArray.size = n
  rw [List.size_toArray, Lib.repeatL_length]
  simp
theorem blanks_at (n i : Nat) (h : i < n) : bAt (blanks n) i = 32 := by
  have hs : i < (blanks n).size := by rw [blanks_size]; exact h
  rw [← bAt_eq (blanks n) i hs]
  have e : Lib.repeatL (⟨#[32]⟩ : ByteArray).data.toList n = List.replicate n 32 := by
    have := Lib.repeatL_replicate 32 1 n
    simpa using this
  have e2 : (blanks n).data.toList[i]'(by simpa using hs) = 32 := by
    have : (blanks n).data.toList = List.replicate n 32 := by
      rw [← e]
      rfl
    simp [this]
  have e3 : (blanks n)[i] = 32 := e2
  rw [e3]
  rfl
theorem gap_blanks (n p : Nat) (hp : p ≤ n) : gap (blanks n) p = n := by
  induction h : n - p generalizing p with
  | zero =>
    obtain rfl : p = n := by omega
    exact gap_stop _ _ (fun hh => absurd hh (by rw [blanks_size]; omega))
  | succ k ih =>
    rw [gap_blank (blanks n) p (by rw [blanks_size]; omega) (by rw [blanks_at n p (by omega)]; rfl)]
    exact ih (p + 1) (by omega) (by omega)
theorem lex_blanks (n : Nat) (h : n ≤ 20000) : lexS (blanks n) = ([⟨0, n, 1, ⟨#[]⟩, 0⟩], (0, 0)) := by
  unfold lexS
  rw [if_neg (by rw [blanks_size]; omega), gap_blanks n 0 (Nat.zero_le _), lexA_end _ _ _ (by rw [blanks_size]; omega), blanks_size]
  have hl : lineS (blanks n) n = 1 := by
    unfold lineS
    rw [blanks_size, Nat.min_self, nls_zero _ _ _ (Nat.zero_le _) (fun i _ hi => by rw [blanks_at n i hi]; decide)]
  rw [hl]
  rfl
theorem lex_long (s : ByteArray) (h : 20000 < s.size) : lexS s = ([], (4, 20000)) := by unfold lexS; rw [if_pos h]
def T5 : List Tk := [⟨1, 0, 1, ⟨#[97]⟩, 0⟩, ⟨2, 11, 3, ⟨#[49]⟩, 1⟩, ⟨0, 14, 3, ⟨#[]⟩, 0⟩]
def T6 : List Tk := [⟨1, 0, 1, ⟨#[97, 98, 99, 100, 101, 102, 103, 104, 105, 106, 107, 108, 109, 110, 111, 112]⟩, 0⟩, ⟨2, 17, 1, ⟨#[52, 50, 57, 52, 57, 54, 55, 50, 57, 53]⟩, 4294967295⟩, ⟨2, 28, 1, ⟨#[48, 120, 70, 70, 70, 70, 70, 70, 70, 70]⟩, 4294967295⟩, ⟨2, 39, 1, ⟨#[48, 48, 55]⟩, 7⟩, ⟨1, 43, 1, ⟨#[97]⟩, 0⟩, ⟨3, 44, 1, ⟨#[46]⟩, 0⟩, ⟨1, 45, 1, ⟨#[98]⟩, 0⟩, ⟨3, 46, 1, ⟨#[60, 61]⟩, 0⟩, ⟨3, 48, 1, ⟨#[62, 61]⟩, 0⟩, ⟨3, 50, 1, ⟨#[33, 61]⟩, 0⟩, ⟨3, 52, 1, ⟨#[61]⟩, 0⟩, ⟨0, 53, 1, ⟨#[]⟩, 0⟩]
theorem ex5_lex : lexS ⟨#[97, 47, 47, 98, 10, 47, 47, 32, 99, 10, 9, 49, 47, 47]⟩ = (T5, (0, 0)) := by kernel_rfl
theorem ex6_lex : lexS ⟨#[97, 98, 99, 100, 101, 102, 103, 104, 105, 106, 107, 108, 109, 110, 111, 112, 32, 52, 50, 57, 52, 57, 54, 55, 50, 57, 53, 32, 48, 120, 70, 70, 70, 70, 70, 70, 70, 70, 32, 48, 48, 55, 32, 97, 46, 98, 60, 61, 62, 61, 33, 61, 61]⟩ = (T6, (0, 0)) := by kernel_rfl
theorem fy0 : lexS ⟨#[120, 32, 97, 98, 99, 100, 101, 102, 103, 104, 105, 106, 107, 108, 109, 110, 111, 112, 113]⟩ = ([], (4, 2)) := by kernel_rfl
theorem fy1 : lexS ⟨#[48, 120, 49, 48, 48, 48, 48, 48, 48, 48, 48]⟩ = ([], (10, 0)) := by kernel_rfl
theorem fy2 : lexS ⟨#[57, 57, 57, 57, 57, 57, 57, 57, 57, 57, 57, 57, 57, 57, 57, 57, 57, 57, 57, 57]⟩ = ([], (10, 0)) := by kernel_rfl
theorem fy3 : lexS ⟨#[57, 57, 57, 57, 57, 57, 57, 57, 57, 57, 57, 120]⟩ = ([], (10, 0)) := by kernel_rfl
theorem fy4 : lexS ⟨#[48, 120, 103]⟩ = ([], (7, 2)) := by kernel_rfl
theorem fy5 : lexS ⟨#[48, 120, 49, 103]⟩ = ([], (7, 3)) := by kernel_rfl
theorem fy6 : lexS ⟨#[49, 95]⟩ = ([], (7, 1)) := by kernel_rfl
theorem fy7 : lexS ⟨#[13]⟩ = ([], (7, 0)) := by kernel_rfl
theorem fy8 : lexS ⟨#[97, 32, 64]⟩ = ([], (7, 2)) := by kernel_rfl
theorem ln0 : lineS ⟨#[97, 10, 98, 10]⟩ (-5 : Int).toNat = 1 := by kernel_rfl
theorem ln1 : lineS ⟨#[97, 10, 98, 10]⟩ (1 : Int).toNat = 1 := by kernel_rfl
theorem ln2 : lineS ⟨#[97, 10, 98, 10]⟩ (2 : Int).toNat = 2 := by kernel_rfl
theorem ln3 : lineS ⟨#[97, 10, 98, 10]⟩ (99 : Int).toNat = 3 := by kernel_rfl
end Go.Proofs.YtmebcenjghagoaaGreatDoor
