/-
  Many ticks in closed form. Plain mathematics.
-/
import Derived.Test.YtgibindoblhkeaaRnext
namespace Go.Proofs.Ytgibindoblhkeaa
open Go.RowKit
set_option linter.unusedVariables false
theorem still {t : Tm} (h : t.c % 2 = 0) : ∀ n, ticksT t n = t ∧ countT t n = 0
  | 0 => ⟨rfl, rfl⟩
  | n + 1 => by
    obtain ⟨e1, e2⟩ := still h n
    have ha : asksT t = false := by unfold asksT; rw [decide_eq_false (by omega)]; rfl
    refine ⟨?_, ?_⟩
    · rw [ticksT, e1]
      exact if_pos h
    · rw [countT, e1, e2, ha]
      rfl
theorem nextT_run {t : Tm} (h : t.c % 2 = 1) : nextT t = (t.b + 65535 - t.a) % 65536 + 1 := if_neg (by omega)
theorem ticks_before {t : Tm} (h : t.ok) (hr : t.c % 2 = 1) : ∀ n, n < nextT t → ticksT t n = onT t n ∧ countT t n = 0
  | 0, _ => ⟨(onT_zero h).symm, rfl⟩
  | n + 1, hn => by
    obtain ⟨e1, e2⟩ := ticks_before h hr n (by omega)
    have hl := nextT_le t
    have ha : asksT (onT t n) = false := by rw [onT_asks h n (by omega)]; exact decide_eq_false (by omega)
    refine ⟨?_, ?_⟩
    · rw [ticksT, e1, onT_tick h n ha]
    · rw [countT, e1, e2, ha]
      rfl
theorem ticks_first {t : Tm} (h : t.ok) (hr : t.c % 2 = 1) : ticksT t (nextT t) = ⟨0, t.b, if t.c / 2 % 2 = 0 then t.c - 1 else t.c⟩ ∧ countT t (nextT t) = 1 := by
  have h1 := h.a
  have h2 := h.b
  have hl := nextT_le t
  have hn := nextT_run hr
  generalize hm : (t.b + 65535 - t.a) % 65536 = m at hn
  rw [hn]
  obtain ⟨e1, e2⟩ := ticks_before h hr m (by omega)
  have ha : asksT (onT t m) = true := by rw [onT_asks h m (by omega)]; exact decide_eq_true hn.symm
  have ho : onT t m = ⟨(t.a + m) % 65536, t.b, t.c⟩ := if_neg (by omega)
  refine ⟨?_, ?_⟩
  · rw [ticksT, e1, ho]
    unfold tickT
    rw [if_neg (show ¬ t.c % 2 = 0 by omega), if_pos (show ((t.a + m) % 65536 + 1) % 65536 = t.b by omega)]
  · rw [countT, e1, e2, ha]
    rfl
/-- How many ticks a round has. -/
def perT (b : Nat) : Nat := if b = 0 then 65536 else b
theorem next_zero {b c : Nat} (hb : b < 65536) (hc : c % 2 = 1) : nextT ⟨0, b, c⟩ = perT b := by
  rw [nextT_run hc]
  show (b + 65535 - 0) % 65536 + 1 = perT b
  unfold perT
  split <;> omega
theorem perT_pos (b : Nat) : 0 < perT b := by
  unfold perT
  split <;> omega
section
variable {b c : Nat} (hb : b < 65536) (hc : c < 65536) (hr : c % 2 = 1) (ha : c / 2 % 2 = 1)
include hb hc hr ha
theorem ticks_round : ∀ q, ticksT ⟨0, b, c⟩ (perT b * q) = ⟨0, b, c⟩ ∧ countT ⟨0, b, c⟩ (perT b * q) = q
  | 0 => ⟨rfl, rfl⟩
  | q + 1 => by
    obtain ⟨e1, e2⟩ := ticks_round q
    obtain ⟨f1, f2⟩ := ticks_first (t := ⟨0, b, c⟩) ⟨Nat.zero_lt_succ _, hb, hc⟩ hr
    rw [next_zero hb hr] at f1 f2
    rw [Nat.mul_succ, ticksT_add, countT_add, e1, e2]
    refine ⟨?_, ?_⟩
    · rw [f1]
      show Tm.mk 0 b (if c / 2 % 2 = 0 then c - 1 else c) = Tm.mk 0 b c
      rw [if_neg (by omega)]
    · rw [f2]
theorem ticks_rest (q r : Nat) (hq : r < perT b) : ticksT ⟨0, b, c⟩ (perT b * q + r) = ⟨r, b, c⟩ ∧ countT ⟨0, b, c⟩ (perT b * q + r) = q := by
  obtain ⟨e1, e2⟩ := ticks_round hb hc hr ha q
  obtain ⟨f1, f2⟩ := ticks_before (t := ⟨0, b, c⟩) ⟨Nat.zero_lt_succ _, hb, hc⟩ hr r (by rw [next_zero hb hr]; exact hq)
  rw [ticksT_add, countT_add, e1, e2]
  refine ⟨?_, ?_⟩
  · rw [f1]
    unfold onT
    rw [if_neg (show ¬ c % 2 = 0 by omega)]
    show Tm.mk ((0 + r) % 65536) b c = Tm.mk r b c
    have : r < 65536 := by
      unfold perT at hq
      split at hq <;> omega
    rw [Nat.zero_add, Nat.mod_eq_of_lt this]
  · rw [f2]
    rfl
theorem ticks_many (n : Nat) : ticksT ⟨0, b, c⟩ n = ⟨n % perT b, b, c⟩ ∧ countT ⟨0, b, c⟩ n = n / perT b := by
  have h := ticks_rest hb hc hr ha (n / perT b) (n % perT b) (Nat.mod_lt _ (perT_pos b))
  rwa [Nat.div_add_mod] at h
end
/-- Again and again. -/
theorem ticks_again {t : Tm} (h : t.ok) (hr : t.c % 2 = 1) (ha : t.c / 2 % 2 = 1) (n : Nat) (hn : nextT t ≤ n) : ticksT t n = ⟨(n - nextT t) % perT t.b, t.b, t.c⟩ ∧ countT t n = 1 + (n - nextT t) / perT t.b := by
  obtain ⟨e1, e2⟩ := ticks_first h hr
  rw [if_neg (show ¬ t.c / 2 % 2 = 0 by omega)] at e1
  obtain ⟨f1, f2⟩ := ticks_many h.b h.c hr ha (n - nextT t)
  have hs : n = nextT t + (n - nextT t) := by omega
  generalize n - nextT t = j at *
  subst hs
  rw [ticksT_add, countT_add, e1, e2, f1, f2]
  exact ⟨rfl, rfl⟩
/-- Once. -/
theorem ticks_once {t : Tm} (h : t.ok) (hr : t.c % 2 = 1) (ha : t.c / 2 % 2 = 0) (n : Nat) (hn : nextT t ≤ n) : ticksT t n = ⟨0, t.b, t.c - 1⟩ ∧ countT t n = 1 := by
  obtain ⟨e1, e2⟩ := ticks_first h hr
  rw [if_pos ha] at e1
  obtain ⟨f1, f2⟩ := still (t := ⟨0, t.b, t.c - 1⟩) (show (t.c - 1) % 2 = 0 by omega) (n - nextT t)
  have hs : n = nextT t + (n - nextT t) := by omega
  generalize n - nextT t = j at *
  subst hs
  rw [ticksT_add, countT_add, e1, e2, f1, f2]
  exact ⟨rfl, rfl⟩
end Go.Proofs.Ytgibindoblhkeaa
