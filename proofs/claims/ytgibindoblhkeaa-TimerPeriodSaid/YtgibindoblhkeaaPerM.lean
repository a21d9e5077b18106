/-
  When a timer asks, tick by tick. Plain mathematics.
-/
import Derived.Test.YtgibindoblhkeaaRestsM
namespace Go.Proofs.Ytgibindoblhkeaa
open Go.RowKit
set_option linter.unusedVariables false
theorem tickT_b (t : Tm) : (tickT t).b = t.b := by
  unfold tickT
  split
  · rfl
  · split
    · rfl
    · rfl
theorem ticksT_b (t : Tm) : ∀ n, (ticksT t n).b = t.b
  | 0 => rfl
  | n + 1 => by rw [ticksT, tickT_b, ticksT_b t n]
theorem asks_still {t : Tm} (h : t.c % 2 = 0) (n : Nat) : asksT (ticksT t n) = false := by
  rw [(still h n).1]
  unfold asksT
  rw [decide_eq_false (by omega)]
  rfl
theorem asks_before {t : Tm} (h : t.ok) (hr : t.c % 2 = 1) (n : Nat) (hn : n < nextT t) : asksT (ticksT t n) = decide (n + 1 = nextT t) := by
  rw [(ticks_before h hr n hn).1]
  exact onT_asks h n (by have := nextT_le t; omega)
theorem asks_once {t : Tm} (h : t.ok) (hr : t.c % 2 = 1) (ha : t.c / 2 % 2 = 0) (n : Nat) (hn : nextT t ≤ n) : asksT (ticksT t n) = false := by
  rw [(ticks_once h hr ha n hn).1]
  unfold asksT
  show (decide ((t.c - 1) % 2 = 1) && _) = false
  rw [decide_eq_false (by omega)]
  rfl
theorem asks_again {t : Tm} (h : t.ok) (hr : t.c % 2 = 1) (ha : t.c / 2 % 2 = 1) (n : Nat) (hn : nextT t ≤ n) : asksT (ticksT t n) = decide ((n + 1 - nextT t) % perT t.b = 0) := by
  rw [(ticks_again h hr ha n hn).1]
  have hp := perT_pos t.b
  have hm := Nat.mod_lt (n - nextT t) hp
  have hs : n + 1 - nextT t = (n - nextT t) + 1 := by omega
  have h2 : ((n - nextT t) + 1) % perT t.b = if (n - nextT t) % perT t.b + 1 = perT t.b then 0 else (n - nextT t) % perT t.b + 1 := by
    rw [Nat.add_mod]
    by_cases h1 : perT t.b = 1
    · rw [h1]
      simp [Nat.mod_one]
    · rw [Nat.mod_eq_of_lt (show 1 < perT t.b by omega)]
      split
      · rename_i he
        rw [he, Nat.mod_self]
      · exact Nat.mod_eq_of_lt (by omega)
  rw [hs, h2]
  unfold asksT
  show (decide (t.c % 2 = 1) && decide (((n - nextT t) % perT t.b + 1) % 65536 = t.b)) = _
  rw [decide_eq_true hr, Bool.true_and, decide_eq_decide]
  have hb := h.b
  generalize (n - nextT t) % perT t.b = r at *
  unfold perT at *
  split at hm
  · rename_i h0
    rw [if_pos h0]
    split <;> omega
  · rename_i h0
    rw [if_neg h0]
    split <;> omega
/-- The first time is right. -/
theorem next_fits {t : Tm} (h : t.ok) (hr : t.c % 2 = 1) : ((t.a : Int) + (nextT t : Int) - (t.b : Int)).tmod 65536 = 0 := by
  have h1 := h.a
  have h2 := h.b
  rw [nextT_run hr]
  refine Int.tmod_eq_zero_of_dvd ?_
  omega
theorem next_pos {t : Tm} (hr : t.c % 2 = 1) : 0 < nextT t := by
  rw [nextT_run hr]
  omega
end Go.Proofs.Ytgibindoblhkeaa
