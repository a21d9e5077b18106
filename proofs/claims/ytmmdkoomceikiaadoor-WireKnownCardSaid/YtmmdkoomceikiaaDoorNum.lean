/-
  Plain mathematics of numbers as bytes: no program in sight.
-/
import Derived.Laws.BitsAllLaws
namespace Go.Proofs.YtmmdkoomceikiaaDoor

/-- Which of the four sizes a number has. -/
def cls (n : Nat) : Nat := if n < 64 then 0 else if n < 16384 then 1 else if n < 1073741824 then 2 else 3
/-- How many bytes a class has. -/
def szc : Nat → Nat
  | 0 => 1
  | 1 => 2
  | 2 => 4
  | _ => 8
def pow62 : Nat := 4611686018427387904
/-- Byte i of the eight bytes of n, the highest first. -/
def byt (n i : Nat) : Nat := n / 256 ^ (7 - i) % 256
def row8 (n : Nat) : List Nat := [n / 72057594037927936 % 256, n / 281474976710656 % 256, n / 1099511627776 % 256, n / 4294967296 % 256, n / 16777216 % 256, n / 65536 % 256, n / 256 % 256, n % 256]
/-- A number with its class in the two highest bits. -/
def tagged (n : Nat) : Nat := n + cls n * 2 ^ (8 * szc (cls n) - 2)
/-- The bytes of a number. -/
def numB (n : Nat) : List Nat := (row8 (tagged (n % pow62))).drop (8 - szc (cls (n % pow62)))

theorem row8_lt (n : Nat) : ∀ x ∈ row8 n, x < 256 := by
  intro x hx
  simp only [row8, List.mem_cons, List.not_mem_nil, or_false] at hx
  omega
theorem numB_lt (n : Nat) : ∀ x ∈ numB n, x < 256 := fun x hx => row8_lt _ x (List.mem_of_mem_drop hx)
theorem length_row8 (n : Nat) : (row8 n).length = 8 := rfl
theorem cls_lt (n : Nat) : cls n < 4 := by unfold cls; split <;> (try split) <;> (try split) <;> omega
theorem szc_bd (c : Nat) : 1 ≤ szc c ∧ szc c ≤ 8 := by
  unfold szc; split <;> omega
theorem length_numB (n : Nat) : (numB n).length = szc (cls (n % pow62)) := by
  have h := szc_bd (cls (n % pow62))
  simp only [numB, List.length_drop, length_row8]
  omega
theorem length_numB_bd (n : Nat) : 1 ≤ (numB n).length ∧ (numB n).length ≤ 8 := by
  rw [length_numB]; exact szc_bd _

theorem cls0 {n : Nat} (h : n < 64) : cls n = 0 := by simp [cls, h]
theorem cls1 {n : Nat} (h : ¬ n < 64) (h1 : n < 16384) : cls n = 1 := by simp [cls, h, h1]
theorem cls2 {n : Nat} (h : ¬ n < 64) (h1 : ¬ n < 16384) (h2 : n < 1073741824) : cls n = 2 := by simp [cls, h, h1, h2]
theorem cls3 {n : Nat} (h : ¬ n < 64) (h1 : ¬ n < 16384) (h2 : ¬ n < 1073741824) : cls n = 3 := by simp [cls, h, h1, h2]
/-- Four ways. -/
theorem cls_ways (n : Nat) : (n < 64 ∧ cls n = 0) ∨ (64 ≤ n ∧ n < 16384 ∧ cls n = 1) ∨ (16384 ≤ n ∧ n < 1073741824 ∧ cls n = 2) ∨ (1073741824 ≤ n ∧ cls n = 3) := by
  unfold cls
  by_cases h : n < 64
  · simp [h]
  · by_cases h1 : n < 16384
    · simp [h, h1]; omega
    · by_cases h2 : n < 1073741824
      · simp [h, h1, h2]; omega
      · simp [h, h1, h2]; omega

theorem mask62 (n : Nat) (h : n < 18446744073709551616) : bits .and .u64 (n : Int) 4611686018427387903 = ((n % pow62 : Nat) : Int) := by
  have e := u64_and_nat n 4611686018427387903 h (by omega)
  rw [show (4611686018427387903 : Int) = ((4611686018427387903 : Nat) : Int) from rfl, e]
  congr 1
  exact Nat.and_two_pow_sub_one_eq_mod n 62
end Go.Proofs.YtmmdkoomceikiaaDoor
