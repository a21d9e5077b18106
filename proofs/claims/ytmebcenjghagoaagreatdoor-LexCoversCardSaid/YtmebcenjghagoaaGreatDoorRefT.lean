/-
  The document's tokens as plain data: what stands at a place, and all tokens of a text. No condition.
-/
import Derived.Test.YtmebcenjghagoaaGreatDoorRefM
namespace Go.Proofs.YtmebcenjghagoaaGreatDoor
open Go.RowKit

/-- A token. -/
structure Tk where
  k : Nat
  p : Nat
  l : Nat
  t : ByteArray
  n : Int
def tkV (x : Tk) : Value := tokV x.k x.p x.l x.t x.n
def nameT (s : ByteArray) (p : Nat) : Tk × (Nat × Nat) := if 16 < wend s p - p then (⟨0, p, lineS s p, ByteArray.empty, 0⟩, (4, p)) else (⟨1, p, lineS s p, s.extract p (wend s p), 0⟩, (0, 0))
def digitT (s : ByteArray) (p : Nat) : Tk × (Nat × Nat) :=
  if isX s p = true ∧ (numE s p).2 = p + 2 then (⟨0, p, lineS s p, ByteArray.empty, 0⟩, (7, p + 2))
  else if 4294967296 ≤ (numE s p).1 then (⟨0, p, lineS s p, ByteArray.empty, 0⟩, (10, p))
  else if isW s (numE s p).2 = true then (⟨0, p, lineS s p, ByteArray.empty, 0⟩, (7, (numE s p).2))
  else (⟨2, p, lineS s p, s.extract p (numE s p).2, (numE s p).1⟩, (0, 0))
def markT (s : ByteArray) (p : Nat) : Tk × (Nat × Nat) :=
  match markS s p marksL with
  | some m => (⟨3, p, lineS s p, m, 0⟩, (0, 0))
  | none => (⟨0, p, lineS s p, ByteArray.empty, 0⟩, (7, p))
/-- The token at a place, and what is wrong there. -/
def oneT (s : ByteArray) (p : Nat) : Tk × (Nat × Nat) := if isL (bAt s p) = true then nameT s p else if isD (bAt s p) = true then digitT s p else markT s p
theorem oneV_eq (s : ByteArray) (p : Nat) : oneV s p = .tuple #[tkV (oneT s p).1, fltV (oneT s p).2.1 (oneT s p).2.2] := by
  unfold oneV oneT
  split
  · unfold nameV nameT
    split <;> rfl
  split
  · unfold digitV digitT
    split
    · rfl
    split
    · rfl
    split <;> rfl
  · unfold markV markT
    cases markS s p marksL <;> rfl
theorem size_extract_of (s : ByteArray) (p q : Nat) (h : p ≤ q) (h2 : q ≤ s.size) : (s.extract p q).size = q - p := by rw [ByteArray.size_extract]; omega
/-- A token that is right has bytes, and they stand in the text. -/
theorem oneT_ok (s : ByteArray) (p : Nat) (hp : p < s.size) (h : (oneT s p).2.1 = 0) : 1 ≤ (oneT s p).1.t.size ∧ p + (oneT s p).1.t.size ≤ s.size := by
  unfold oneT at h ⊢
  by_cases h1 : isL (bAt s p) = true
  · rw [if_pos h1] at h ⊢
    have hw : p + 1 ≤ wend s p := by rw [wend_step s p hp (Or.inl h1)]; exact wend_ge s (p + 1)
    have hw2 := wend_le s p (by omega)
    unfold nameT at h ⊢
    by_cases hl : 16 < wend s p - p
    · rw [if_pos hl] at h; simp at h
    · rw [if_neg hl]
      simp only [size_extract_of s p (wend s p) (by omega) hw2]
      omega
  rw [if_neg h1] at h ⊢
  by_cases h2 : isD (bAt s p) = true
  · rw [if_pos h2] at h ⊢
    unfold digitT at h ⊢
    by_cases a1 : isX s p = true ∧ (numE s p).2 = p + 2
    · rw [if_pos a1] at h; simp at h
    rw [if_neg a1] at h ⊢
    by_cases a2 : 4294967296 ≤ (numE s p).1
    · rw [if_pos a2] at h; simp at h
    rw [if_neg a2] at h ⊢
    by_cases a3 : isW s (numE s p).2 = true
    · rw [if_pos a3] at h; simp at h
    rw [if_neg a3]
    have hb : p + 1 ≤ (numE s p).2 ∧ (numE s p).2 ≤ s.size := by
      unfold numE
      by_cases hx : isX s p = true
      · rw [if_pos hx]
        simp only [isX, Bool.and_eq_true, decide_eq_true_eq] at hx
        have g1 := numS_ge s 16 (p + 2) 0
        have g2 := numS_le s 16 (p + 2) 0 (by omega)
        omega
      · rw [if_neg hx]
        have hd : 0 ≤ hexS (bAt s p) ∧ hexS (bAt s p) < 10 := by
          rcases hexS_ways (bAt s p) with ⟨b1, b2, _, hr⟩ | ⟨_, _, hd, _⟩ | ⟨_, _, hd, _⟩ | ⟨_, hd, _⟩
          · rw [hr]; omega
          · rw [h2] at hd; cases hd
          · rw [h2] at hd; cases hd
          · rw [h2] at hd; cases hd
        rw [numS_step s 10 p 0 hp hd]
        exact ⟨numS_ge s 10 (p + 1) _, numS_le s 10 (p + 1) _ (by omega)⟩
    simp only [size_extract_of s p (numE s p).2 (by omega) hb.2]
    omega
  · rw [if_neg h2] at h ⊢
    unfold markT at h ⊢
    rcases hm : markS s p marksL with _ | m
    · rw [hm] at h; simp at h
    · have h3 := List.find?_some hm
      have h4 := List.mem_of_find?_eq_some hm
      simp only [isM, Bool.and_eq_true, decide_eq_true_eq] at h3
      have h5 : ∀ x ∈ marksL, 1 ≤ x.size := by decide
      exact ⟨h5 m h4, h3.1⟩
theorem gap_ge (s : ByteArray) (p : Nat) : p ≤ gap s p := by
  induction h : s.size - p using Nat.strongRecOn generalizing p with
  | _ n ih =>
    subst h
    rw [gap]
    split
    · split
      · have := ih (s.size - (p + 1)) (by omega) (p + 1) rfl
        omega
      · split
        · have h1 := endl_ge s (p + 1)
          have := ih (s.size - endl s (p + 1)) (by omega) (endl s (p + 1)) rfl
          omega
        · exact Nat.le_refl _
    · exact Nat.le_refl _
theorem gap_le (s : ByteArray) (p : Nat) (hp : p ≤ s.size) : gap s p ≤ s.size := by
  induction h : s.size - p using Nat.strongRecOn generalizing p with
  | _ n ih =>
    subst h
    rw [gap]
    split
    · split
      · exact ih (s.size - (p + 1)) (by omega) (p + 1) (by omega) rfl
      · split
        · have h1 := endl_ge s (p + 1)
          exact ih (s.size - endl s (p + 1)) (by omega) (endl s (p + 1)) (endl_le s (p + 1) (by omega)) rfl
        · exact hp
    · exact hp
/-- All tokens from a place on, behind those that there are; or the first fault. -/
def lexA (s : ByteArray) (p : Nat) (acc : List Tk) : List Tk × (Nat × Nat) :=
  if h : p < s.size then
    if _h2 : (oneT s p).2.1 = 0 then lexA s (gap s (p + (oneT s p).1.t.size)) (acc ++ [(oneT s p).1])
    else ([], (oneT s p).2)
  else (acc ++ [⟨0, s.size, lineS s s.size, ByteArray.empty, 0⟩], (0, 0))
termination_by s.size - p
decreasing_by
  have h3 := oneT_ok s p h _h2
  have h4 := gap_ge s (p + (oneT s p).1.t.size)
  omega
theorem lexA_step (s : ByteArray) (p : Nat) (acc : List Tk) (h : p < s.size) (h2 : (oneT s p).2.1 = 0) : lexA s p acc = lexA s (gap s (p + (oneT s p).1.t.size)) (acc ++ [(oneT s p).1]) := by rw [lexA, dif_pos h, dif_pos h2]
theorem lexA_bad (s : ByteArray) (p : Nat) (acc : List Tk) (h : p < s.size) (h2 : ¬ (oneT s p).2.1 = 0) : lexA s p acc = ([], (oneT s p).2) := by rw [lexA, dif_pos h, dif_neg h2]
theorem lexA_end (s : ByteArray) (p : Nat) (acc : List Tk) (h : ¬ p < s.size) : lexA s p acc = (acc ++ [⟨0, s.size, lineS s s.size, ByteArray.empty, 0⟩], (0, 0)) := by rw [lexA, dif_neg h]
/-- The document's answer. -/
def lexS (s : ByteArray) : List Tk × (Nat × Nat) := if 20000 < s.size then ([], (4, 20000)) else lexA s (gap s 0) []
end Go.Proofs.YtmebcenjghagoaaGreatDoor
