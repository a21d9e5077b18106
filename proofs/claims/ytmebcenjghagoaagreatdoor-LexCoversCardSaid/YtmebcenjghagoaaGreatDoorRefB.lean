/-
  The document's own Letter, Digit, hex, Line, between by contracts. No condition but that the text is shorter than 2^46 bytes.
-/
import Derived.Test.YtmebcenjghagoaaGreatDoorSpec
import Derived.Test.YtmebcenjghagoaaGreatDoorProg
import Derived.WalkKit
import Derived.WalkSpells
import Derived.WalkLawsBesides
import Derived.BigQuiet
import Derived.Deep.QuietTactic
import Derived.Lib.Hide
namespace Go.Proofs.YtmebcenjghagoaaGreatDoor
open Go.RowKit

theorem isL_ways (c : Nat) : (c < 65 ∧ isL c = false) ∨ (65 ≤ c ∧ c ≤ 90 ∧ isL c = true) ∨ (91 ≤ c ∧ c ≤ 94 ∧ isL c = false) ∨ (c = 95 ∧ isL c = true) ∨ (c = 96 ∧ isL c = false) ∨ (97 ≤ c ∧ c ≤ 122 ∧ isL c = true) ∨ (123 ≤ c ∧ isL c = false) := by
  by_cases h1 : c < 65
  · exact Or.inl ⟨h1, by simp [isL]; omega⟩
  by_cases h2 : c ≤ 90
  · exact Or.inr (Or.inl ⟨by omega, h2, by simp [isL]; omega⟩)
  by_cases h3 : c ≤ 94
  · exact Or.inr (Or.inr (Or.inl ⟨by omega, h3, by simp [isL]; omega⟩))
  by_cases h4 : c = 95
  · exact Or.inr (Or.inr (Or.inr (Or.inl ⟨h4, by simp [isL]; omega⟩)))
  by_cases h5 : c = 96
  · exact Or.inr (Or.inr (Or.inr (Or.inr (Or.inl ⟨h5, by simp [isL]; omega⟩))))
  by_cases h6 : c ≤ 122
  · exact Or.inr (Or.inr (Or.inr (Or.inr (Or.inr (Or.inl ⟨by omega, h6, by simp [isL]; omega⟩)))))
  · exact Or.inr (Or.inr (Or.inr (Or.inr (Or.inr (Or.inr ⟨by omega, by simp [isL]; omega⟩)))))
set_option maxHeartbeats 1000000 in
theorem rLetter_any (c : Nat) (w : World) : Calls Tryz.prog 18 #[.int .u8 (c : Int)] w fun e w' => e = .returned (.bool (isL c)) ∧ w = w' := by
  rcases isL_ways c with ⟨h1, hr⟩ | ⟨h1, h2, hr⟩ | ⟨h1, h2, hr⟩ | ⟨rfl, hr⟩ | ⟨rfl, hr⟩ | ⟨h1, h2, hr⟩ | ⟨h1, hr⟩
  · rw [hr]
    have k1 : decide (97 ≤ (c : Int)) = false := by simp; omega
    have k2 : decide (65 ≤ (c : Int)) = false := by simp; omega
    have k3 : ((c : Int) == 95) = false := by simp; omega
    clear hr
    go_enter Tryz.func18, Tryz.ntmps18
    go_wp2
    go_ret
    exact ⟨rfl, rfl⟩
  · rw [hr]
    have k1 : decide (97 ≤ (c : Int)) = false := by simp; omega
    have k2 : decide (65 ≤ (c : Int)) = true := by simp; omega
    have k3 : decide ((c : Int) ≤ 90) = true := by simp; omega
    clear hr
    go_enter Tryz.func18, Tryz.ntmps18
    go_wp2
    go_ret
    exact ⟨rfl, rfl⟩
  · rw [hr]
    have k1 : decide (97 ≤ (c : Int)) = false := by simp; omega
    have k2 : decide (65 ≤ (c : Int)) = true := by simp; omega
    have k3 : decide ((c : Int) ≤ 90) = false := by simp; omega
    have k4 : ((c : Int) == 95) = false := by simp; omega
    clear hr
    go_enter Tryz.func18, Tryz.ntmps18
    go_wp2
    go_ret
    exact ⟨rfl, rfl⟩
  · rw [hr]
    clear hr
    go_enter Tryz.func18, Tryz.ntmps18
    go_wp2
    go_ret
    exact ⟨rfl, rfl⟩
  · rw [hr]
    clear hr
    go_enter Tryz.func18, Tryz.ntmps18
    go_wp2
    go_ret
    exact ⟨rfl, rfl⟩
  · rw [hr]
    have k1 : decide (97 ≤ (c : Int)) = true := by simp; omega
    have k2 : decide ((c : Int) ≤ 122) = true := by simp; omega
    clear hr
    go_enter Tryz.func18, Tryz.ntmps18
    go_wp2
    go_ret
    exact ⟨rfl, rfl⟩
  · rw [hr]
    have k1 : decide (97 ≤ (c : Int)) = true := by simp; omega
    have k2 : decide ((c : Int) ≤ 122) = false := by simp; omega
    have k3 : decide (65 ≤ (c : Int)) = true := by simp; omega
    have k4 : decide ((c : Int) ≤ 90) = false := by simp; omega
    have k5 : ((c : Int) == 95) = false := by simp; omega
    clear hr
    go_enter Tryz.func18, Tryz.ntmps18
    go_wp2
    go_ret
    exact ⟨rfl, rfl⟩
theorem isD_ways (c : Nat) : (c < 48 ∧ isD c = false) ∨ (48 ≤ c ∧ c ≤ 57 ∧ isD c = true) ∨ (58 ≤ c ∧ isD c = false) := by
  by_cases h1 : c < 48
  · exact Or.inl ⟨h1, by simp [isD]; omega⟩
  by_cases h2 : c ≤ 57
  · exact Or.inr (Or.inl ⟨by omega, h2, by simp [isD]; omega⟩)
  · exact Or.inr (Or.inr ⟨by omega, by simp [isD]; omega⟩)
set_option maxHeartbeats 1000000 in
theorem rDigit_any (c : Nat) (w : World) : Calls Tryz.prog 17 #[.int .u8 (c : Int)] w fun e w' => e = .returned (.bool (isD c)) ∧ w = w' := by
  rcases isD_ways c with ⟨h1, hr⟩ | ⟨h1, h2, hr⟩ | ⟨h1, hr⟩
  · rw [hr]
    have k1 : decide (48 ≤ (c : Int)) = false := by simp; omega
    clear hr
    go_enter Tryz.func17, Tryz.ntmps17
    go_wp2
    go_ret
    exact ⟨rfl, rfl⟩
  · rw [hr]
    have k1 : decide (48 ≤ (c : Int)) = true := by simp; omega
    have k2 : decide ((c : Int) ≤ 57) = true := by simp; omega
    clear hr
    go_enter Tryz.func17, Tryz.ntmps17
    go_wp2
    go_ret
    exact ⟨rfl, rfl⟩
  · rw [hr]
    have k1 : decide (48 ≤ (c : Int)) = true := by simp; omega
    have k2 : decide ((c : Int) ≤ 57) = false := by simp; omega
    clear hr
    go_enter Tryz.func17, Tryz.ntmps17
    go_wp2
    go_ret
    exact ⟨rfl, rfl⟩
end Go.Proofs.YtmebcenjghagoaaGreatDoor
