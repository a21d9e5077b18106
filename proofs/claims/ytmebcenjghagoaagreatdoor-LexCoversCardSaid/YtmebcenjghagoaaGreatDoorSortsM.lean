/-
  Of what sort the document's tokens are: names of letters and digits, numbers below 2^32. No condition.
-/
import Derived.Test.YtmebcenjghagoaaGreatDoorIterM
import Derived.Test.YtmebcenjghagoaaGreatDoorNumAt
namespace Go.Proofs.YtmebcenjghagoaaGreatDoor
open Go.RowKit

structure SortsOk (x : Tk) : Prop where
  num : x.k = 2 → 0 ≤ x.n ∧ x.n < 4294967296 ∧ 1 ≤ x.t.size ∧ isD (bAt x.t 0) = true
  name : x.k = 1 → 1 ≤ x.t.size ∧ x.t.size ≤ 16 ∧ isL (bAt x.t 0) = true ∧ ∀ i, i < x.t.size → isL (bAt x.t i) = true ∨ isD (bAt x.t i) = true
theorem numE_first (s : ByteArray) (p : Nat) (hp : p < s.size) (hd : isD (bAt s p) = true) : p + 1 ≤ (numE s p).2 ∧ (numE s p).2 ≤ s.size ∧ ((numE s p).1 < 4294967296 → 0 ≤ (numE s p).1) := by
  by_cases hx : isX s p = true
  · have hxx := hx
    simp only [isX, Bool.and_eq_true, decide_eq_true_eq, beq_iff_eq] at hxx
    have hne : numE s p = numS s ((16 : Nat) : Int) (p + 2) 0 := by unfold numE; rw [if_pos hx]; rfl
    obtain ⟨he, h1, h2⟩ := numE_pu s p 16 8 (p + 2) dig16 (by omega) hne (by omega)
    have hge := span_ge (ofK 8) s (p + 2)
    have hle := span_le (ofK 8) s (p + 2) (by omega)
    refine ⟨by omega, by omega, fun h => ?_⟩
    rcases hr : puS (s.extract (p + 2) (spanS (ofK 8) s (p + 2))) 16 0 (spanS (ofK 8) s (p + 2) - (p + 2)) 0 with _ | v
    · have := h2 hr
      omega
    · have := (h1 v hr).1
      omega
  · have hne : numE s p = numS s ((10 : Nat) : Int) p 0 := by unfold numE; rw [if_neg hx]; rfl
    obtain ⟨he, h1, h2⟩ := numE_pu s p 10 4 p dig10 (by omega) hne (by omega)
    have hst := span_step (ofK 4) s p hp (by rw [(ofK_all _).2.1]; exact hd)
    have hge := span_ge (ofK 4) s (p + 1)
    have hle := span_le (ofK 4) s p (by omega)
    refine ⟨by omega, by omega, fun h => ?_⟩
    rcases hr : puS (s.extract p (spanS (ofK 4) s p)) 10 0 (spanS (ofK 4) s p - p) 0 with _ | v
    · have := h2 hr
      omega
    · have := (h1 v hr).1
      omega
theorem oneT_sorts (s : ByteArray) (p : Nat) (hp : p < s.size) (h : (oneT s p).2.1 = 0) : SortsOk (oneT s p).1 := by
  revert h
  unfold oneT
  by_cases hl : isL (bAt s p) = true
  · rw [if_pos hl]
    have hw1 : p + 1 ≤ wend s p := by rw [wend_step s p hp (Or.inl hl)]; exact wend_ge s (p + 1)
    have hw2 := wend_le s p (by omega)
    unfold nameT
    by_cases hlong : 16 < wend s p - p
    · rw [if_pos hlong]; intro h; cases h
    · rw [if_neg hlong]
      intro _
      have hsz := size_extract_of s p (wend s p) (by omega) hw2
      refine ⟨(fun h => by cases h), (fun _ => ⟨by simp only [hsz]; omega, by simp only [hsz]; omega, ?_, fun i hi => ?_⟩)⟩
      · simp only
        rw [bAt_extract s p (wend s p) 0 hw2 (by omega)]
        exact hl
      · simp only [hsz] at hi ⊢
        rw [bAt_extract s p (wend s p) i hw2 (by omega)]
        have hin := span_in (ofK 6) s p (p + i) (by omega) (by rw [span6_wend]; omega)
        rwa [(ofK_all _).2.2.1, Bool.or_eq_true] at hin
  rw [if_neg hl]
  by_cases hd : isD (bAt s p) = true
  · rw [if_pos hd]
    obtain ⟨h1, h2, h3⟩ := numE_first s p hp hd
    unfold digitT
    by_cases a1 : isX s p = true ∧ (numE s p).2 = p + 2
    · rw [if_pos a1]; intro h; cases h
    rw [if_neg a1]
    by_cases a2 : 4294967296 ≤ (numE s p).1
    · rw [if_pos a2]; intro h; cases h
    rw [if_neg a2]
    by_cases a3 : isW s (numE s p).2 = true
    · rw [if_pos a3]; intro h; cases h
    rw [if_neg a3]
    intro _
    have hsz := size_extract_of s p (numE s p).2 (by omega) h2
    refine ⟨(fun _ => ⟨h3 (by omega), by show (numE s p).1 < _; omega, by simp only [hsz]; omega, ?_⟩), (fun h => by cases h)⟩
    simp only
    rw [bAt_extract s p _ 0 h2 (by omega)]
    exact hd
  · rw [if_neg hd]
    unfold markT
    cases markS s p marksL with
    | none => intro h; cases h
    | some m => intro _; exact ⟨(fun h => by cases h), (fun h => by cases h)⟩
theorem lexA_sorts (s : ByteArray) (p : Nat) (acc : List Tk) (ha : ∀ x ∈ acc, SortsOk x) : ∀ x ∈ (lexA s p acc).1, SortsOk x := by
  induction hn : s.size - p using Nat.strongRecOn generalizing p acc with
  | _ n ih =>
    subst hn
    by_cases hp : p < s.size
    · by_cases h2 : (oneT s p).2.1 = 0
      · rw [lexA_step s p acc hp h2]
        have h3 := oneT_ok s p hp h2
        have h4 := gap_ge s (p + (oneT s p).1.t.size)
        refine ih _ (by omega) _ _ (fun x hx => ?_) rfl
        rcases List.mem_append.1 hx with h | h
        · exact ha x h
        · rw [List.mem_singleton.1 h]
          exact oneT_sorts s p hp h2
      · rw [lexA_bad s p acc hp h2]
        intro x hx
        cases hx
    · rw [lexA_end s p acc hp]
      intro x hx
      rcases List.mem_append.1 hx with h | h
      · exact ha x h
      · rw [List.mem_singleton.1 h]
        exact ⟨(fun h => by cases h), (fun h => by cases h)⟩
theorem lexS_sorts (s : ByteArray) : ∀ x ∈ (lexS s).1, SortsOk x := by
  unfold lexS
  split
  · intro x hx
    cases hx
  · exact lexA_sorts s _ [] (fun x hx => by cases hx)
end Go.Proofs.YtmebcenjghagoaaGreatDoor
