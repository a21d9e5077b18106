/-
  Which vector is chosen: the best one, and there is but one best. Plain mathematics.
-/
import Derived.Test.YtcdomelfmkbloaaTellsW
namespace Go.Proofs.Ytcdomelfmkbloaa
open Go.RowKit
set_option linter.unusedVariables false
/-- b is the best of the first k. -/
def Best (f : Nat → Bool) (ps : List Int) (k : Nat) (b : Int) : Prop :=
  (b = -1 ∧ ∀ v, v < k → f v = false) ∨ ∃ m : Nat, b = (m : Int) ∧ m < k ∧ f m = true ∧ ∀ v, v < k → f v = true → prio ps v < prio ps m ∨ (prio ps v = prio ps m ∧ m ≤ v)
theorem best_unique {f : Nat → Bool} {ps : List Int} {k : Nat} {b b' : Int} (h : Best f ps k b) (h' : Best f ps k b') : b = b' := by
  rcases h with ⟨rfl, h1⟩ | ⟨m, rfl, hm, hf, h1⟩ <;> rcases h' with ⟨rfl, h2⟩ | ⟨m', rfl, hm', hf', h2⟩
  · rfl
  · rw [h1 m' hm'] at hf'; cases hf'
  · rw [h2 m hm] at hf; cases hf
  · have e1 := h1 m' hm' hf'
    have e2 := h2 m hm hf
    omega
theorem bestK_best (c : Ic) (ps : List Int) (lev : Int) (mk : Nat) : ∀ k, Best (mayI c ps lev mk) ps k (bestK c ps lev mk k)
  | 0 => .inl ⟨rfl, fun v hv => by omega⟩
  | k + 1 => by
    have ih := bestK_best c ps lev mk k
    unfold bestK
    generalize bestK c ps lev mk k = b at ih
    by_cases hm : mayI c ps lev mk k = true
    · rw [hm, Bool.true_and]
      rcases ih with ⟨rfl, h1⟩ | ⟨m, rfl, hmk, hf, h1⟩
      · rw [show beats ps k (-1) = true from rfl, if_pos rfl]
        refine .inr ⟨k, rfl, by omega, hm, fun v hv hv2 => ?_⟩
        by_cases hvk : v < k
        · rw [h1 v hvk] at hv2; cases hv2
        · obtain rfl : v = k := by omega
          exact .inr ⟨rfl, Nat.le_refl _⟩
      · have hb : beats ps k (m : Int) = decide (prio ps m < prio ps k) := by
          unfold beats
          rw [decide_eq_false (by omega), Bool.false_or]
          rfl
        rw [hb]
        by_cases hlt : prio ps m < prio ps k
        · rw [decide_eq_true hlt, if_pos rfl]
          refine .inr ⟨k, rfl, by omega, hm, fun v hv hv2 => ?_⟩
          by_cases hvk : v < k
          · have := h1 v hvk hv2
            exact .inl (by omega)
          · obtain rfl : v = k := by omega
            exact .inr ⟨rfl, Nat.le_refl _⟩
        · rw [decide_eq_false hlt, if_neg (by decide)]
          refine .inr ⟨m, rfl, by omega, hf, fun v hv hv2 => ?_⟩
          by_cases hvk : v < k
          · exact h1 v hvk hv2
          · obtain rfl : v = k := by omega
            omega
    · have hm2 : mayI c ps lev mk k = false := by simpa using hm
      rw [hm2, Bool.false_and, if_neg (by decide)]
      rcases ih with ⟨rfl, h1⟩ | ⟨m, rfl, hmk, hf, h1⟩
      · refine .inl ⟨rfl, fun v hv => ?_⟩
        by_cases hvk : v < k
        · exact h1 v hvk
        · obtain rfl : v = k := by omega
          exact hm2
      · refine .inr ⟨m, rfl, by omega, hf, fun v hv hv2 => ?_⟩
        by_cases hvk : v < k
        · exact h1 v hvk hv2
        · obtain rfl : v = k := by omega
          rw [hm2] at hv2; cases hv2
/-- What is chosen, outside critical sections. -/
theorem choose_best (c : Ic) (ps : List Int) (lev : Int) (mk : Nat) : Best (mayI c ps lev mk) ps 8 (chooseI c ps lev 0 mk) := by
  rw [show chooseI c ps lev 0 mk = bestK c ps lev mk 8 from if_neg (by decide)]
  exact bestK_best c ps lev mk 8
theorem choose_is {c : Ic} {ps : List Int} {lev : Int} {mk : Nat} {b : Int} (h : Best (mayI c ps lev mk) ps 8 b) : chooseI c ps lev 0 mk = b := best_unique (choose_best c ps lev mk) h
theorem best_congr {f g : Nat → Bool} {ps : List Int} {k : Nat} {b : Int} (h : Best f ps k b) (e : ∀ v, v < k → g v = f v) : Best g ps k b := by
  rcases h with ⟨rfl, h1⟩ | ⟨m, rfl, hm, hf, h1⟩
  · exact .inl ⟨rfl, fun v hv => by rw [e v hv]; exact h1 v hv⟩
  · exact .inr ⟨m, rfl, hm, by rw [e m hm]; exact hf, fun v hv hv2 => h1 v hv (by rw [← e v hv]; exact hv2)⟩
theorem mayI_iff (c : Ic) (ps : List Int) (lev : Int) (mk v : Nat) : mayI c ps lev mk v = true ↔ c.p.testBit v = true ∧ c.m.testBit v = true ∧ mk.testBit v = false ∧ 0 < prio ps v ∧ lev < prio ps v := by
  unfold mayI
  simp only [Bool.and_eq_true, decide_eq_true_eq, Bool.not_eq_true']
  constructor
  · rintro ⟨⟨⟨⟨a, b⟩, c⟩, d⟩, e⟩; exact ⟨a, b, c, d, e⟩
  · rintro ⟨a, b, c, d, e⟩; exact ⟨⟨⟨⟨a, b⟩, c⟩, d⟩, e⟩
/-- At a level. -/
theorem choose_level (c : Ic) (ps : List Int) (mk : Nat) (lev : Int) (hl : 0 ≤ lev) : chooseI c ps lev 0 mk = if 0 ≤ chooseI c ps 0 0 mk ∧ lev < prio ps (chooseI c ps 0 0 mk).toNat then chooseI c ps 0 0 mk else -1 := by
  have hb := choose_best c ps 0 mk
  generalize chooseI c ps 0 0 mk = b at hb
  refine choose_is ?_
  rcases hb with ⟨rfl, h1⟩ | ⟨m, rfl, hm, hf, h1⟩
  · rw [if_neg (by omega)]
    refine .inl ⟨rfl, fun v hv => ?_⟩
    have h2 := h1 v hv
    rcases hq : mayI c ps lev mk v with _ | _
    · rfl
    · rw [mayI_iff] at hq
      have : mayI c ps 0 mk v = true := (mayI_iff _ _ _ _ _).2 ⟨hq.1, hq.2.1, hq.2.2.1, hq.2.2.2.1, hq.2.2.2.1⟩
      rw [this] at h2; cases h2
  · rw [mayI_iff] at hf
    have hmt : ((m : Nat) : Int).toNat = m := by omega
    rw [hmt]
    have up : ∀ v, mayI c ps lev mk v = true → mayI c ps 0 mk v = true := fun v hq => by
      rw [mayI_iff] at hq
      exact (mayI_iff _ _ _ _ _).2 ⟨hq.1, hq.2.1, hq.2.2.1, hq.2.2.2.1, hq.2.2.2.1⟩
    by_cases hlv : lev < prio ps m
    · rw [if_pos ⟨by omega, hlv⟩]
      exact .inr ⟨m, rfl, hm, (mayI_iff _ _ _ _ _).2 ⟨hf.1, hf.2.1, hf.2.2.1, hf.2.2.2.1, hlv⟩, fun v hv hq => h1 v hv (up v hq)⟩
    · rw [if_neg (by omega)]
      refine .inl ⟨rfl, fun v hv => ?_⟩
      rcases hq : mayI c ps lev mk v with _ | _
      · rfl
      · have h2 := h1 v hv (up v hq)
        rw [mayI_iff] at hq
        omega
theorem not_bit (x v : Nat) (hx : x < 256) (hv : v < 8) : (255 - x).testBit v = !x.testBit v := by
  rw [show 255 - x = 2 ^ 8 - (x + 1) by omega, Nat.testBit_two_pow_sub_succ (by omega)]
  simp [hv]
theorem all_bit (v : Nat) (hv : v < 8) : (255 : Nat).testBit v = true := by
  rw [show (255 : Nat) = 2 ^ 8 - 1 from rfl, Nat.testBit_two_pow_sub_one]
  simpa using hv
/-- Masked is as not allowed. -/
theorem choose_mask (c : Ic) (ps : List Int) (lev : Int) (mk : Nat) (hk : mk < 256) : chooseI ⟨c.m &&& (255 - mk), c.p⟩ ps lev 0 0 = chooseI c ps lev 0 mk :=
  choose_is (best_congr (choose_best c ps lev mk) fun v hv => by
    unfold mayI
    rw [Nat.testBit_and, not_bit mk v hk hv, Nat.zero_testBit, Bool.not_false, Bool.and_true]
    simp only [Bool.and_assoc])
/-- Masked, or not allowed, is as not requested. -/
theorem choose_pend (c : Ic) (ps : List Int) (lev : Int) (mk : Nat) (hk : mk < 256) : chooseI ⟨255, (c.p &&& c.m) &&& (255 - mk)⟩ ps lev 0 0 = chooseI c ps lev 0 mk :=
  choose_is (best_congr (choose_best c ps lev mk) fun v hv => by
    unfold mayI
    rw [Nat.testBit_and, Nat.testBit_and, not_bit mk v hk hv, Nat.zero_testBit, all_bit v hv, Bool.not_false, Bool.and_true, Bool.and_true])
theorem prio_set (ps : List Int) (j v : Nat) (y : Int) (hj : j < ps.length) : prio (ps.set j y) v = if j = v then y else prio ps v := by
  unfold prio
  rw [List.getD_eq_getElem?_getD, List.getD_eq_getElem?_getD, List.getElem?_set]
  by_cases h : j = v
  · rw [if_pos h, if_pos h, if_pos hj]
    rfl
  · rw [if_neg h, if_neg h]
/-- Another one of a priority below the best one's changes nothing. -/
theorem choose_other (c : Ic) (ps : List Int) (mk m v : Nat) (h8 : ps.length = 8) (hm : chooseI c ps 0 0 mk = (m : Int)) (hv : v < 8) (hne : v ≠ m) : chooseI c (ps.set v (prio ps m - 1)) 0 0 mk = (m : Int) := by
  have hb := choose_best c ps 0 mk
  rw [hm] at hb
  refine choose_is ?_
  rcases hb with ⟨h0, -⟩ | ⟨m', he, hm8, hf, h1⟩
  · omega
  · obtain rfl : m' = m := by omega
    rw [mayI_iff] at hf
    have pm : prio (ps.set v (prio ps m' - 1)) m' = prio ps m' := by rw [prio_set _ _ _ _ (by omega), if_neg hne]
    refine .inr ⟨m', rfl, hm8, (mayI_iff _ _ _ _ _).2 (by rw [pm]; exact hf), fun u hu hq => ?_⟩
    rw [pm]
    by_cases huv : v = u
    · left
      rw [prio_set _ _ _ _ (by omega), if_pos huv]
      omega
    · have pu : prio (ps.set v (prio ps m' - 1)) u = prio ps u := by rw [prio_set _ _ _ _ (by omega), if_neg huv]
      rw [pu]
      refine h1 u hu ?_
      rw [mayI_iff] at hq ⊢
      rwa [pu] at hq
end Go.Proofs.Ytcdomelfmkbloaa
