/-
  Where the tokens lie, and the texts of LexParts. No condition.
-/
import Derived.Test.YtmebcenjghagoaaGreatDoorPartsO
import Derived.Test.YtmebcenjghagoaaGreatDoorMade
namespace Go.Proofs.YtmebcenjghagoaaGreatDoor
open Go.RowKit

structure Lies (s : ByteArray) (x : Tk) : Prop where
  p : x.p ≤ s.size
  l : x.l ≤ s.size + 1
theorem lexA_lies (s : ByteArray) (p : Nat) (acc : List Tk) (ha : ∀ x ∈ acc, Lies s x) : ∀ x ∈ (lexA s p acc).1, Lies s x := by
  induction hn : s.size - p using Nat.strongRecOn generalizing p acc with
  | _ n ih =>
    subst hn
    by_cases hp : p < s.size
    · by_cases h2 : (oneT s p).2.1 = 0
      · rw [lexA_step s p acc hp h2]
        have h3 := oneT_ok s p hp h2
        have h4 := gap_ge s (p + (oneT s p).1.t.size)
        refine ih _ (by omega) _ _ (fun x hx => ?_) rfl
        rcases List.mem_append.1 hx with h | h
        · exact ha x h
        · rw [List.mem_singleton.1 h]
          have hk := oneT_k s p h2
          exact ⟨by rw [hk.2.1]; omega, by rw [hk.2.2]; exact lineS_bd s p⟩
      · rw [lexA_bad s p acc hp h2]
        intro x hx
        cases hx
    · rw [lexA_end s p acc hp]
      intro x hx
      rcases List.mem_append.1 hx with h | h
      · exact ha x h
      · rw [List.mem_singleton.1 h]
        exact ⟨Nat.le_refl _, lineS_bd s _⟩
theorem lexS_lies (s : ByteArray) : ∀ x ∈ (lexS s).1, Lies s x := by
  unfold lexS
  split
  · intro x hx
    cases hx
  · exact lexA_lies s _ [] (fun x hx => by cases hx)
theorem lexA_pos (s : ByteArray) (p : Nat) (acc : List Tk) (h : (lexA s p acc).2.1 = 0) : (lexA s p acc).1 ≠ [] ∧ (lexA s p acc).2 = (0, 0) := by
  induction hn : s.size - p using Nat.strongRecOn generalizing p acc with
  | _ n ih =>
    subst hn
    by_cases hp : p < s.size
    · by_cases h2 : (oneT s p).2.1 = 0
      · rw [lexA_step s p acc hp h2] at h ⊢
        have h3 := oneT_ok s p hp h2
        have h4 := gap_ge s (p + (oneT s p).1.t.size)
        exact ih _ (by omega) _ _ h rfl
      · rw [lexA_bad s p acc hp h2] at h
        exact absurd h h2
    · rw [lexA_end s p acc hp]
      exact ⟨by simp, rfl⟩
theorem lexS_pos (s : ByteArray) (h : (lexS s).2.1 = 0) : (lexS s).1 ≠ [] ∧ (lexS s).2 = (0, 0) := by
  revert h
  unfold lexS
  split
  · intro h; cases h
  · exact lexA_pos s _ []
theorem bAt_app1 (a b : ByteArray) (i : Nat) (h : i < a.size) : bAt (a ++ b) i = bAt a i := by
  rw [← bAt_eq (a ++ b) i (by rw [ByteArray.size_append]; omega), ← bAt_eq a i h, ByteArray.getElem_append_left h]
theorem bAt_app2 (a b : ByteArray) (i : Nat) (h : i < b.size) : bAt (a ++ b) (a.size + i) = bAt b i := by
  rw [← bAt_eq (a ++ b) (a.size + i) (by rw [ByteArray.size_append]; omega), ← bAt_eq b i h, ByteArray.getElem_append_right (by omega)]
  simp
theorem begins_of (s b : ByteArray) : Begins (s ++ ⟨#[10]⟩) ((s ++ ⟨#[10]⟩) ++ b) := by
  have hz : (s ++ (⟨#[10]⟩ : ByteArray)).size = s.size + 1 := by rw [ByteArray.size_append]; rfl
  have hz2 : ((s ++ (⟨#[10]⟩ : ByteArray)) ++ b).size = (s ++ (⟨#[10]⟩ : ByteArray)).size + b.size := ByteArray.size_append
  refine ⟨by omega, by omega, fun i hi => bAt_app1 _ _ i hi, ?_⟩
  rw [hz, Nat.add_sub_cancel]
  exact bAt_app2 s ⟨#[10]⟩ 0 (by decide)
theorem ends_of (a b : ByteArray) : Ends b (a ++ b) a.size := ⟨by rw [ByteArray.size_append], fun i hi => bAt_app2 a b i hi⟩
/-- What the three answers are to one another. -/
structure PartsOk (N L : Nat) (x y z : List Tk × (Nat × Nat)) : Prop where
  bad1 : x.2.1 ≠ 0 → z = ([], x.2)
  bad2 : x.2.1 = 0 → y.2.1 ≠ 0 → z = ([], (y.2.1, N + y.2.2))
  good : x.2.1 = 0 → y.2.1 = 0 → z = (x.1.dropLast ++ y.1.map (mv N L), (0, 0))
  pos : x.2.1 = 0 → x.1 ≠ [] ∧ x.2 = (0, 0)
  pos2 : y.2.1 = 0 → y.2 = (0, 0)
theorem lexS_fault (s : ByteArray) (h : (lexS s).2.1 ≠ 0) : (lexS s).1 = [] := by
  revert h
  unfold lexS
  split
  · intro _; rfl
  · exact lexA_fault s _ []
theorem parts_of (s b : ByteArray) (h1 : s.size ≤ 2000) (h2 : b.size ≤ 2000) : PartsOk (s ++ (⟨#[10]⟩ : ByteArray)).size (nls (s ++ ⟨#[10]⟩) 0 (s ++ (⟨#[10]⟩ : ByteArray)).size) (lexS (s ++ ⟨#[10]⟩)) (lexS b) (lexS ((s ++ ⟨#[10]⟩) ++ b)) := by
  have hz : (s ++ (⟨#[10]⟩ : ByteArray)).size = s.size + 1 := by rw [ByteArray.size_append]; rfl
  have hz2 : ((s ++ (⟨#[10]⟩ : ByteArray)) ++ b).size = (s ++ (⟨#[10]⟩ : ByteArray)).size + b.size := ByteArray.size_append
  obtain ⟨a1, a2, a3⟩ := lex_parts (begins_of s b) (ends_of _ b) (by omega)
  exact ⟨fun h => by rw [a1 h]; exact Prod.ext (lexS_fault _ h) rfl, a2, a3, lexS_pos _, fun h => (lexS_pos _ h).2⟩
theorem ErrL.row {w : World} {base : Nat} {v : Value} {f : Nat × Nat} (h : ErrL w base v f) (hn : f.1 ≠ 0) : ∃ b, v = .iface 68 (.pointer (some ⟨b, 0, none⟩)) ∧ w.heap[b]? = fltRow (f.1 : Int) (f.2 : Int) := by
  rcases h with ⟨h0, _⟩ | ⟨_, b, _, rfl, h3⟩
  · exact absurd (by rw [h0]) hn
  · exact ⟨b, rfl, h3⟩
theorem ErrL.nil {w : World} {base : Nat} {v : Value} {f : Nat × Nat} (h : ErrL w base v f) (hn : f.1 = 0) : v = .nilIface := by
  rcases h with ⟨_, h⟩ | ⟨h0, _⟩
  · exact h
  · exact absurd hn h0
theorem count_all (s : ByteArray) (w : World) : Calls Tryz.prog 25 #[.string s, .string ⟨#[10]⟩] w fun e w' => e = .returned (.int .i64 (nls s 0 s.size : Nat)) ∧ w = w' := by
  have e : s.extract 0 s.size = s := by simp
  have h := count_nls s 0 s.size (Nat.zero_le _) (Nat.le_refl _)
  rw [e] at h
  refine (Tryz.strings_Count_one s 10 w).mono ?_
  rintro e w' ⟨rfl, rfl⟩
  exact ⟨by rw [h], rfl⟩
theorem oneT_at (s : ByteArray) (p : Nat) (hp : p < s.size) : (oneT s p).2.2 ≤ s.size + 2 := by
  unfold oneT nameT digitT markT
  split
  · split
    · simp only; omega
    · exact Nat.zero_le _
  split
  · rename_i hd
    have := (numE_first s p hp hd).2.1
    split
    · simp only; omega
    split
    · simp only; omega
    split
    · simp only; omega
    · exact Nat.zero_le _
  · split
    · exact Nat.zero_le _
    · simp only; omega
theorem lexA_at (s : ByteArray) (p : Nat) (acc : List Tk) : (lexA s p acc).2.2 ≤ s.size + 2 := by
  induction hn : s.size - p using Nat.strongRecOn generalizing p acc with
  | _ n ih =>
    subst hn
    by_cases hp : p < s.size
    · by_cases h2 : (oneT s p).2.1 = 0
      · rw [lexA_step s p acc hp h2]
        have h3 := oneT_ok s p hp h2
        have h4 := gap_ge s (p + (oneT s p).1.t.size)
        exact ih _ (by omega) _ _ rfl
      · rw [lexA_bad s p acc hp h2]
        exact oneT_at s p hp
    · rw [lexA_end s p acc hp]
      exact Nat.zero_le _
theorem lexS_at (s : ByteArray) : (lexS s).2.2 ≤ s.size + 20002 := by
  unfold lexS
  split
  · simp only; omega
  · have := lexA_at s (gap s 0) []
    omega
end Go.Proofs.YtmebcenjghagoaaGreatDoor
