/-
  TimerRests' walk, if the program's functions are what they must be: true. Made by wip/gentimerrests.py.
-/
import Derived.Test.YtgibindoblhkeaaWorks
import Derived.Test.YtgibindoblhkeaaPer
import Derived.Laws.BitsAllLaws
namespace Go.Proofs.Ytgibindoblhkeaa
open Go.RowKit
set_option linter.unusedVariables false
theorem even_and (x : Nat) : (x &&& 65534) % 2 = 0 := by
  have h := Nat.and_mod_two_pow (a := x) (b := 65534) (n := 1)
  rw [show (2 : Nat) ^ 1 = 2 from rfl] at h
  rw [h, show (65534 : Nat) % 2 = 0 from rfl, Nat.and_zero]
theorem and_lt16 (x : Nat) (h : x < 65536) : x &&& 65534 < 65536 := Nat.lt_of_le_of_lt Nat.and_le_left h
theorem low16_small (b : Nat) (h : b < 65536) : low16 (b : Int) = b := by
  unfold low16
  omega
/-- A timer that runs again keeps its other numbers. -/
theorem ticks_keep {t : Tm} (h : t.c / 2 % 2 = 1) : ∀ n, (ticksT t n).b = t.b ∧ (ticksT t n).c = t.c
  | 0 => ⟨rfl, rfl⟩
  | n + 1 => by
    obtain ⟨e1, e2⟩ := ticks_keep h n
    rw [ticksT]
    unfold tickT
    split
    · exact ⟨e1, e2⟩
    · split
      · refine ⟨e1, ?_⟩
        show (if (ticksT t n).c / 2 % 2 = 0 then (ticksT t n).c - 1 else (ticksT t n).c) = t.c
        rw [e2, if_neg (by omega)]
      · exact ⟨e1, e2⟩
theorem peek_write (t : Tm) (i j : Nat) (v : Int) (hi : i < 3) (hj : j < 3) : peekT (writeT t i v) j = if j = i then ((low16 v : Nat) : Int) else peekT t j := by
  obtain rfl | rfl | rfl : i = 0 ∨ i = 1 ∨ i = 2 := by omega
  all_goals (obtain rfl | rfl | rfl : j = 0 ∨ j = 1 ∨ j = 2 := by omega)
  all_goals rfl
end Go.Proofs.Ytgibindoblhkeaa
