/-
  The layer lex as plain functions on a text's bytes: what a byte is, where a gap ends, which token stands at a place. No program in sight.
-/
namespace Go.Proofs.YtmebcenjghagoaaGreatDoor
/-- Byte i of a text. -/
def bAt (s : ByteArray) (i : Nat) : Nat := if h : i < s.size then s[i].toNat else 0
theorem bAt_eq (s : ByteArray) (i : Nat) (h : i < s.size) : s[i].toNat = bAt s i := by simp [bAt, h]
theorem bAt_lt (s : ByteArray) (i : Nat) : bAt s i < 256 := by
  unfold bAt; split
  · exact UInt8.toNat_lt _
  · omega
def isL (b : Nat) : Bool := (decide (97 ≤ b) && decide (b ≤ 122)) || ((decide (65 ≤ b) && decide (b ≤ 90)) || b == 95)
def isD (b : Nat) : Bool := decide (48 ≤ b) && decide (b ≤ 57)
def isB (b : Nat) : Bool := b == 32 || (b == 9 || b == 10)
/-- A digit's value to the base 16; -1: it is none. -/
def hexS (b : Nat) : Int := if isD b then (b : Int) - 48 else if 97 ≤ b ∧ b ≤ 102 then (b : Int) - 87 else if 65 ≤ b ∧ b ≤ 70 then (b : Int) - 55 else -1
/-- The next line end from p on, or the text's end. -/
def endl (s : ByteArray) (p : Nat) : Nat := if p < s.size ∧ bAt s p ≠ 10 then endl s (p + 1) else p
termination_by s.size - p
theorem endl_ge (s : ByteArray) (p : Nat) : p ≤ endl s p := by
  induction h : s.size - p generalizing p with
  | zero => rw [endl, if_neg (by omega)]; exact Nat.le_refl _
  | succ n ih =>
    rw [endl]
    split
    · have := ih (p + 1) (by omega)
      omega
    · exact Nat.le_refl _
theorem endl_le (s : ByteArray) (p : Nat) (hp : p ≤ s.size) : endl s p ≤ s.size := by
  induction h : s.size - p generalizing p with
  | zero => rw [endl, if_neg (by omega)]; exact hp
  | succ n ih =>
    rw [endl]
    split
    · exact ih (p + 1) (by omega) (by omega)
    · exact hp
theorem endl_step (s : ByteArray) (p : Nat) (h : p < s.size) (h2 : bAt s p ≠ 10) : endl s p = endl s (p + 1) := by rw [endl, if_pos ⟨h, h2⟩]
theorem endl_stop (s : ByteArray) (p : Nat) (h : ¬ (p < s.size ∧ bAt s p ≠ 10)) : endl s p = p := by rw [endl, if_neg h]
/-- A comment begins at p. -/
def isC (s : ByteArray) (p : Nat) : Bool := decide (p + 1 < s.size) && (bAt s p == 47 && bAt s (p + 1) == 47)
/-- The place behind all that stands between tokens, from p on. -/
def gap (s : ByteArray) (p : Nat) : Nat :=
  if p < s.size then
    if isB (bAt s p) then gap s (p + 1)
    else if h : isC s p = true then gap s (endl s (p + 1))
    else p
  else p
termination_by s.size - p
decreasing_by
  · omega
  · have := endl_ge s (p + 1); omega
theorem gap_blank (s : ByteArray) (p : Nat) (h : p < s.size) (hb : isB (bAt s p) = true) : gap s p = gap s (p + 1) := by rw [gap, if_pos h, if_pos hb]
theorem isC_endl (s : ByteArray) (p : Nat) (hc : isC s p = true) : endl s p = endl s (p + 1) := by
  simp only [isC, Bool.and_eq_true, decide_eq_true_eq, beq_iff_eq] at hc
  exact endl_step s p (by omega) (by omega)
theorem gap_comment (s : ByteArray) (p : Nat) (hc : isC s p = true) : gap s p = gap s (endl s p) := by
  have h2 := isC_endl s p hc
  have hb : isB (bAt s p) = false := by
    simp only [isC, Bool.and_eq_true, decide_eq_true_eq, beq_iff_eq] at hc
    simp [isB, hc.2.1]
  have hp : p < s.size := by
    simp only [isC, Bool.and_eq_true, decide_eq_true_eq] at hc
    omega
  rw [gap, if_pos hp, if_neg (by simp [hb]), dif_pos hc, h2]
theorem gap_stop (s : ByteArray) (p : Nat) (h : p < s.size → isB (bAt s p) = false ∧ isC s p = false) : gap s p = p := by
  rw [gap]
  split
  · rename_i hp
    rw [if_neg (by simp [(h hp).1]), dif_neg (by simp [(h hp).2])]
  · rfl
/-- How many line ends stand ahead of p, from q on. -/
def nls (s : ByteArray) (q p : Nat) : Nat := ((List.range (p - q)).filter fun i => bAt s (q + i) == 10).length
theorem nls_self (s : ByteArray) (q : Nat) : nls s q q = 0 := by simp [nls]
theorem nls_succ (s : ByteArray) (q p : Nat) (h : q ≤ p) : nls s q (p + 1) = nls s q p + if bAt s p = 10 then 1 else 0 := by
  unfold nls
  rw [Nat.succ_sub h, List.range_succ, List.filter_append, List.length_append]
  congr 1
  by_cases hb : bAt s p = 10 <;> simp [hb, show q + (p - q) = p from by omega]
theorem nls_le (s : ByteArray) (q p : Nat) : nls s q p ≤ p - q := by
  unfold nls
  exact Nat.le_trans (List.length_filter_le _ _) (by simp)
theorem nls_add (s : ByteArray) (q m p : Nat) (h1 : q ≤ m) (h2 : m ≤ p) : nls s q p = nls s q m + nls s m p := by
  induction h : p - m generalizing p with
  | zero => obtain rfl : p = m := by omega
            rw [nls_self]; omega
  | succ n ih =>
    obtain ⟨p, rfl⟩ : ∃ k, p = k + 1 := ⟨p - 1, by omega⟩
    rw [nls_succ s q p (by omega), nls_succ s m p (by omega), ih p (by omega) (by omega)]
    omega
/-- The line of a place. -/
def lineS (s : ByteArray) (p : Nat) : Nat := 1 + nls s 0 (min p s.size)
end Go.Proofs.YtmebcenjghagoaaGreatDoor
