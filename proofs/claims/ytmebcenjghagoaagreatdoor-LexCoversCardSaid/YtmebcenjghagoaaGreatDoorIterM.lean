/-
  No line end stands in a token; the document's tokens, from a place whose gap is still to come. No condition.
-/
import Derived.Test.YtmebcenjghagoaaGreatDoorTok
import Derived.Test.YtmebcenjghagoaaGreatDoorNumAt
namespace Go.Proofs.YtmebcenjghagoaaGreatDoor
open Go.RowKit

theorem nls_zero (s : ByteArray) (p q : Nat) (hpq : p ≤ q) (h : ∀ i, p ≤ i → i < q → bAt s i ≠ 10) : nls s p q = 0 := by
  induction hn : q - p generalizing q with
  | zero =>
    obtain rfl : q = p := by omega
    exact nls_self s q
  | succ n ih =>
    obtain ⟨q, rfl⟩ : ∃ k, q = k + 1 := ⟨q - 1, by omega⟩
    rw [nls_succ s p q (by omega), ih q (by omega) (fun i h1 h2 => h i h1 (by omega)) (by omega), if_neg (h q (by omega) (by omega))]
theorem lineS_add (s : ByteArray) (p q : Nat) (h : p ≤ q) (hq : q ≤ s.size) : lineS s q = lineS s p + nls s p q := by
  unfold lineS
  rw [Nat.min_eq_left hq, Nat.min_eq_left (by omega), nls_add s 0 p q (Nat.zero_le _) h]
  omega
theorem lineS_bd (s : ByteArray) (p : Nat) : lineS s p ≤ s.size + 1 := by
  unfold lineS
  have := nls_le s 0 (min p s.size)
  omega
theorem not10_L (b : Nat) (h : isL b = true) : b ≠ 10 := by rintro rfl; cases h
theorem not10_D (b : Nat) (h : isD b = true) : b ≠ 10 := by rintro rfl; cases h
theorem not10_H (b : Nat) (h : isH b = true) : b ≠ 10 := by rintro rfl; cases h
theorem marks_not10 : ∀ m ∈ marksL, ∀ x ∈ m.data.toList, x.toNat ≠ 10 := by decide
theorem tok_line (s : ByteArray) (p : Nat) (hp : p < s.size) (h : (oneT s p).2.1 = 0) : nls s p (p + (oneT s p).1.t.size) = 0 := by
  have hok := oneT_ok s p hp h
  refine nls_zero s p _ (by omega) fun i h1 h2 => ?_
  revert h h2 hok
  unfold oneT
  by_cases hl : isL (bAt s p) = true
  · rw [if_pos hl]
    unfold nameT
    by_cases hlong : 16 < wend s p - p
    · rw [if_pos hlong]; intro h; cases h
    · rw [if_neg hlong]
      intro _ _ h2
      simp only [size_extract_of s p (wend s p) (wend_ge s p) (wend_le s p (by omega))] at h2
      have hin := span_in (ofK 6) s p i h1 (by rw [span6_wend]; omega)
      rw [(ofK_all _).2.2.1, Bool.or_eq_true] at hin
      rcases hin with hh | hh
      · exact not10_L _ hh
      · exact not10_D _ hh
  rw [if_neg hl]
  by_cases hd : isD (bAt s p) = true
  · rw [if_pos hd]
    unfold digitT
    by_cases a1 : isX s p = true ∧ (numE s p).2 = p + 2
    · rw [if_pos a1]; intro h; cases h
    rw [if_neg a1]
    by_cases a2 : 4294967296 ≤ (numE s p).1
    · rw [if_pos a2]; intro h; cases h
    rw [if_neg a2]
    by_cases a3 : isW s (numE s p).2 = true
    · rw [if_pos a3]; intro h; cases h
    rw [if_neg a3]
    intro _ _ h2
    by_cases hx : isX s p = true
    · have hxx := hx
      simp only [isX, Bool.and_eq_true, decide_eq_true_eq, beq_iff_eq] at hxx
      have hne : numE s p = numS s ((16 : Nat) : Int) (p + 2) 0 := by unfold numE; rw [if_pos hx]; rfl
      have he := (numE_pu s p 16 8 (p + 2) dig16 (by omega) hne (by omega)).1
      have hge := span_ge (ofK 8) s (p + 2)
      have hle := span_le (ofK 8) s (p + 2) (by omega)
      rw [he, size_extract_of s p _ (by omega) hle] at h2
      rcases (by omega : i = p ∨ i = p + 1 ∨ p + 2 ≤ i) with rfl | rfl | h3
      · omega
      · omega
      · have hin := span_in (ofK 8) s (p + 2) i h3 (by omega)
        rw [(ofK_all _).2.2.2, Bool.or_eq_true] at hin
        rcases hin with hh | hh
        · exact not10_D _ hh
        · exact not10_H _ hh
    · have hne : numE s p = numS s ((10 : Nat) : Int) p 0 := by unfold numE; rw [if_neg hx]; rfl
      have he := (numE_pu s p 10 4 p dig10 (by omega) hne (by omega)).1
      have hge := span_ge (ofK 4) s p
      have hle := span_le (ofK 4) s p (by omega)
      rw [he, size_extract_of s p _ (by omega) hle] at h2
      have hin := span_in (ofK 4) s p i h1 (by omega)
      rw [(ofK_all _).2.1] at hin
      exact not10_D _ hin
  · rw [if_neg hd]
    unfold markT
    cases hm : markS s p marksL with
    | none => intro h; cases h
    | some m =>
      intro _ _ h2
      simp only at h2
      have h3 := List.find?_some hm
      have h4 := List.mem_of_find?_eq_some hm
      obtain ⟨j, rfl⟩ : ∃ j, i = p + j := ⟨i - p, by omega⟩
      have hj : j < m.size := by omega
      have hb : bAt s (p + j) = bAt m j := by
        by_cases hc : bAt s (p + j) = bAt m j
        · exact hc
        · have := isM_not s p m j hj (fun _ => hc)
          rw [this] at h3
          cases h3
      rw [hb, ← bAt_eq m j hj]
      exact marks_not10 m h4 _ (by
        show m.data[j] ∈ m.data.toList
        exact Array.getElem_mem_toList _)
theorem oneT_k (s : ByteArray) (p : Nat) (h : (oneT s p).2.1 = 0) : (oneT s p).1.k ≠ 0 ∧ (oneT s p).1.p = p ∧ (oneT s p).1.l = lineS s p := by
  revert h
  unfold oneT nameT digitT markT
  split
  · split
    · intro h; cases h
    · intro _; exact ⟨by simp, rfl, rfl⟩
  split
  · split
    · intro h; cases h
    split
    · intro h; cases h
    split
    · intro h; cases h
    · intro _; exact ⟨by simp, rfl, rfl⟩
  · split
    · intro _; exact ⟨by simp, rfl, rfl⟩
    · intro h; cases h
/-- The document's answer of a text that is not too long. -/
def lexB (s : ByteArray) : List Tk × (Nat × Nat) := lexA s (gap s 0) []
end Go.Proofs.YtmebcenjghagoaaGreatDoor
