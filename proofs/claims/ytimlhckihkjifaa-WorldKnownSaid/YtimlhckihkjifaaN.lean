/-
  Scripts of drafts; what WorldSets and WorldPlays say of what there is. Plain mathematics.
-/
import Derived.Test.YtimlhckihkjifaaM
namespace Go.Proofs.Ytimlhckihkjifaa
open Go.RowKit
set_option linter.unusedVariables false
set_option linter.unusedSimpArgs false
theorem mk_ahead {acc : List In} (t : Int) (d : Dr) (hs : acc.Pairwise fun x y => aheadI x y = true) (ht : ∀ y, acc.getLast? = some y → t = y.a) : ∀ y ∈ acc, aheadI y (mkS acc t d) = true := by
  intro y hy
  cases hl : acc.getLast? with
  | none => rw [List.getLast?_eq_none_iff.1 hl] at hy; cases hy
  | some z =>
    have hz : aheadI z (mkS acc t d) = true := by
      have hm : mkS acc t d = if aheadI z (rawS t d) = true then rawS t d else { rawS t d with a := (rawS t d).a + 1 } := by unfold mkS; rw [hl]
      have hta := ht z hl
      rw [hm]
      split
      · assumption
      · rw [ahead_iff]
        left
        show z.a < (rawS t d).a + 1
        show z.a < t + ((d.f % 20 : Nat) : Int) + 1
        omega
    rcases Classical.em (y = z) with rfl | hne
    · exact hz
    · obtain ⟨ys, h2⟩ := List.getLast?_eq_some_iff.1 hl
      rw [h2] at hs hy
      rw [List.pairwise_append] at hs
      simp only [List.mem_append, List.mem_singleton] at hy
      rcases hy with hy | hy
      · exact ahead_trans (hs.2.2 y hy z (by simp)) hz
      · exact absurd hy hne
theorem scr_srt (l : List Dr) : ∀ k, (scrS l k).1.Pairwise (fun x y => aheadI x y = true) ∧ ∀ y, (scrS l k).1.getLast? = some y → (scrS l k).2 = y.a
  | 0 => by simp [scrS]
  | k + 1 => by
    obtain ⟨h1, h2⟩ := scr_srt l k
    unfold scrS
    split
    · exact ⟨h1, h2⟩
    · rename_i d _
      refine ⟨?_, fun y hy => ?_⟩
      · show List.Pairwise _ (_ ++ [_])
        rw [List.pairwise_append]
        refine ⟨h1, List.pairwise_singleton _ _, fun y hy z hz => ?_⟩
        rw [List.mem_singleton.1 hz]
        exact mk_ahead _ d h1 h2 y hy
      · simp only [List.getLast?_append, List.getLast?_singleton, Option.some_or, Option.some.injEq] at hy
        rw [← hy]
theorem script_scr {l : List Dr} (hl : ∀ d ∈ l, d.ok) : Scr (scriptL l) :=
  ⟨fun x hx => by
    have := scr_all hl (min l.length 100) (by omega) x hx
    exact ⟨by omega, by omega, this.2.2.1, this.2.2.2.1⟩, (scr_srt l _).1⟩
theorem script_ok {l : List Dr} (hl : ∀ d ∈ l, d.ok) : ∀ x ∈ scriptL l, x.ok := scr_ok hl (by omega)
theorem script_len (l : List Dr) : (scriptL l).length ≤ 100 := by
  have := scr_len l (min l.length 100)
  unfold scriptL
  omega
/-- What there is behind a setting. -/
def wantN (x : In) (later : Bool) (c : Int) (n : Nw) : Nw :=
  if x.k = 1 ∧ c = x.a then { n with b := true, y := x.v } else if x.k = 0 ∧ x.a ≤ c ∧ later = false then { n with p := x.v } else if x.k = 2 ∧ x.a ≤ c ∧ later = false then { n with m := x.v } else n
/-- Is there one of x's kind behind it, up to c? -/
def laterB (l : List In) (x : In) (c : Int) : Bool := l.any fun y => decide (y.k = x.k) && (decide (x.a < y.a) && decide (y.a ≤ c))
theorem later_nil {l : List In} {x : In} {c : Int} (p : In → Bool) (hp : ∀ y, p y = true ↔ y.k = x.k ∧ y.a ≤ c) : (l.filter p).filter (fun y => aheadI x y) = [] ↔ laterB l x c = false := by
  rw [List.filter_eq_nil_iff, laterB, List.any_eq_false]
  constructor
  · intro h y hy hh
    simp only [Bool.and_eq_true, decide_eq_true_eq] at hh
    exact h y (List.mem_filter.2 ⟨hy, (hp y).2 ⟨hh.1, hh.2.2⟩⟩) ((ahead_iff x y).2 (Or.inl hh.2.1))
  · intro h y hy hh
    obtain ⟨h1, h2⟩ := List.mem_filter.1 hy
    have h3 := (hp y).1 h2
    rw [ahead_iff] at hh
    refine h y h1 ?_
    simp only [Bool.and_eq_true, decide_eq_true_eq]
    omega
theorem filter_one {l : List In} (h : Scr l) {x : In} {c : Int} (hk : x.k = 1) (hc : x.a = c) : lastV 0 ((setL l x).filter (isB c)) = x.v ∧ ((setL l x).filter (isB c)).isEmpty = false := by
  have hp : isB c x = true := by unfold isB; simp [hk, hc]
  refine ⟨?_, ?_⟩
  · rw [last_set h x (isB c) hp, if_pos]
    rw [List.filter_eq_nil_iff]
    intro y hy hh
    have := (List.mem_filter.1 hy).2
    unfold isB at this
    simp only [Bool.and_eq_true, decide_eq_true_eq] at this
    rw [ahead_iff] at hh
    omega
  · rw [set_here x _ hp]
    simp
theorem set_now {l : List In} (h : Scr l) {x : In} (hx : Rng x) {c : Int} (hc : 1 ≤ c) : atL (setL l x) c = wantN x (laterB l x c) c (atL l c) := by
  rw [(h.set hx).at_ hc, h.at_ hc]
  have hP : isP c x = false → (setL l x).filter (isP c) = l.filter (isP c) := fun h0 => set_other h x _ h0 (fun y e1 e2 => by unfold isP; rw [e1, e2])
  have hM : isM c x = false → (setL l x).filter (isM c) = l.filter (isM c) := fun h0 => set_other h x _ h0 (fun y e1 e2 => by unfold isM; rw [e1, e2])
  have hB : isB c x = false → (setL l x).filter (isB c) = l.filter (isB c) := fun h0 => set_other h x _ h0 (fun y e1 e2 => by unfold isB; rw [e1, e2])
  obtain ⟨h1, h2, h3, h4⟩ := hx
  obtain hk | hk | hk : x.k = 0 ∨ x.k = 1 ∨ x.k = 2 := by omega
  · rw [hM (by unfold isM; simp [hk]), hB (by unfold isB; simp [hk])]
    unfold wantN
    rw [if_neg (by omega)]
    by_cases hle : x.a ≤ c
    · have hp : isP c x = true := by unfold isP; simp [hk, hle]
      rw [last_set h x _ hp]
      have hn := later_nil (l := l) (x := x) (c := c) (isP c) (fun y => by unfold isP; simp [hk])
      cases hlt : laterB l x c with
      | false => rw [if_pos (hn.2 hlt), if_pos ⟨hk, hle, rfl⟩]
      | true =>
        rw [if_neg (fun e => by rw [hn.1 e] at hlt; cases hlt), if_neg (by simp), if_neg (by simp)]
    · rw [hP (by unfold isP; simp [hle]), if_neg (by omega), if_neg (by omega)]
  · rw [hP (by unfold isP; simp [hk]), hM (by unfold isM; simp [hk])]
    unfold wantN
    by_cases hce : c = x.a
    · obtain ⟨e1, e2⟩ := filter_one h hk hce.symm
      rw [e1, e2, if_pos ⟨hk, hce⟩]
      rfl
    · rw [hB (by unfold isB; simp [Ne.symm hce]), if_neg (by omega), if_neg (by omega), if_neg (by omega)]
  · rw [hP (by unfold isP; simp [hk]), hB (by unfold isB; simp [hk])]
    unfold wantN
    rw [if_neg (by omega), if_neg (by omega)]
    by_cases hle : x.a ≤ c
    · have hp : isM c x = true := by unfold isM; simp [hk, hle]
      rw [last_set h x _ hp]
      have hn := later_nil (l := l) (x := x) (c := c) (isM c) (fun y => by unfold isM; simp [hk])
      cases hlt : laterB l x c with
      | false => rw [if_pos (hn.2 hlt), if_pos ⟨hk, hle, rfl⟩]
      | true => rw [if_neg (fun e => by rw [hn.1 e] at hlt; cases hlt), if_neg (by simp)]
    · rw [hM (by unfold isM; simp [hle]), if_neg (by omega)]
/-- What comes up to a cycle. -/
theorem upto_scr {l : List In} (h : Scr l) (c : Int) : Scr (uptoL l c) := h.filter _
theorem upto_now {l : List In} (h : Scr l) {c i : Int} (hi : 1 ≤ i) (hc : i ≤ c) : atL (uptoL l c) i = atL l i := by
  rw [(upto_scr h c).at_ hi, h.at_ hi]
  have e : ∀ p : In → Bool, (∀ y, p y = true → y.a ≤ i) → (uptoL l c).filter p = l.filter p := fun p hp => by
    unfold uptoL
    rw [List.filter_filter]
    refine List.filter_congr (fun y hy => ?_)
    cases hq : p y with
    | false => rfl
    | true =>
      have := hp y hq
      simp only [Bool.true_and, decide_eq_true_eq]
      omega
  rw [e (isP i) (fun y hy => by unfold isP at hy; simp only [Bool.and_eq_true, decide_eq_true_eq] at hy; exact hy.2), e (isM i) (fun y hy => by unfold isM at hy; simp only [Bool.and_eq_true, decide_eq_true_eq] at hy; exact hy.2), e (isB i) (fun y hy => by unfold isB at hy; simp only [Bool.and_eq_true, decide_eq_true_eq] at hy; omega)]
theorem upto_quiet {l : List In} (h : Scr l) {c i : Int} (hi : 1 ≤ i) (hc : c < i) : (atL (uptoL l c) i).b = false := by
  rw [(upto_scr h c).at_ hi]
  have e : (uptoL l c).filter (isB i) = [] := by
    rw [List.filter_eq_nil_iff]
    intro y hy hh
    have := (List.mem_filter.1 hy).2
    unfold isB at hh
    simp only [Bool.and_eq_true, decide_eq_true_eq] at this hh
    omega
  rw [e]
  rfl
end Go.Proofs.Ytimlhckihkjifaa
