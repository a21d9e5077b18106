/-
  Scripts, in plain mathematics: what may be a script; what is set; what there is at a cycle.
-/
import Derived.Test.YtimlhckihkjifaaRh
namespace Go.Proofs.Ytimlhckihkjifaa
open Go.RowKit
set_option linter.unusedVariables false
set_option linter.unusedSimpArgs false
def Rng (x : In) : Prop := 1 ≤ x.a ∧ x.a ≤ 1073741824 ∧ 0 ≤ x.k ∧ x.k ≤ 2
/-- A script. -/
structure Scr (l : List In) : Prop where
  rng : ∀ x ∈ l, Rng x
  srt : l.Pairwise fun x y => aheadI x y = true
theorem ahead_iff (x y : In) : aheadI x y = true ↔ x.a < y.a ∨ (x.a = y.a ∧ x.k < y.k) := by
  unfold aheadI
  simp only [Bool.or_eq_true, Bool.and_eq_true, decide_eq_true_eq]
theorem ahead_not (x y : In) : aheadI x y = false ↔ ¬ (x.a < y.a ∨ (x.a = y.a ∧ x.k < y.k)) := by
  rw [← ahead_iff, Bool.not_eq_true]
theorem ahead_trans {x y z : In} (h : aheadI x y = true) (h2 : aheadI y z = true) : aheadI x z = true := by
  rw [ahead_iff] at *
  omega
theorem err_ok {x : In} (h : Rng x) (p : Option In) (hp : ∀ y, p = some y → aheadI y x = true) : errI p x = 0 := by
  unfold errI
  obtain ⟨h1, h2, h3, h4⟩ := h
  rw [if_neg (by omega), if_neg (by omega)]
  cases p with
  | none => rfl
  | some y => exact if_pos (hp y rfl)
theorem chkG_ok : ∀ (l : List In) (p : Option In) (i : Nat), (∀ x ∈ l, Rng x) → l.Pairwise (fun x y => aheadI x y = true) → (∀ y, p = some y → ∀ x ∈ l, aheadI y x = true) → chkG p i l = (-1, 0)
  | [], _, _, _, _, _ => rfl
  | x :: t, p, i, h1, h2, h3 => by
    rw [List.pairwise_cons] at h2
    unfold chkG
    rw [if_pos (err_ok (h1 x (by simp)) p (fun y hy => h3 y hy x (by simp)))]
    exact chkG_ok t (some x) (i + 1) (fun y hy => h1 y (by simp [hy])) h2.2 (fun y hy z hz => by
      obtain rfl : x = y := by simpa using hy
      exact h2.1 z hz)
theorem Scr.chk {l : List In} (h : Scr l) : chkL l = (-1, 0) := chkG_ok l none 0 h.rng h.srt (fun y hy => by cases hy)
theorem Scr.filter {l : List In} (h : Scr l) (p : In → Bool) : Scr (l.filter p) := ⟨fun x hx => h.rng x (List.mem_filter.1 hx).1, h.srt.filter p⟩
theorem Scr.one {x : In} (h : Rng x) : Scr [x] := ⟨fun y hy => by rw [List.mem_singleton.1 hy]; exact h, List.pairwise_singleton _ _⟩
/-- What is set is a script. -/
theorem Scr.set {l : List In} (h : Scr l) {x : In} (hx : Rng x) : Scr (setL l x) := by
  refine ⟨fun y hy => ?_, ?_⟩
  · unfold setL at hy
    simp only [List.mem_append, List.mem_singleton, List.mem_filter] at hy
    rcases hy with (hy | rfl) | hy
    · exact h.rng y hy.1
    · exact hx
    · exact h.rng y hy.1
  · unfold setL
    rw [List.pairwise_append, List.pairwise_append]
    refine ⟨⟨h.srt.filter _, List.pairwise_singleton _ _, fun y hy z hz => ?_⟩, h.srt.filter _, fun y hy z hz => ?_⟩
    · rw [List.mem_singleton.1 hz]
      exact (List.mem_filter.1 hy).2
    · simp only [List.mem_append, List.mem_singleton, List.mem_filter] at hy
      rcases hy with hy | rfl
      · exact ahead_trans hy.2 (List.mem_filter.1 hz).2
      · exact (List.mem_filter.1 hz).2
theorem setE_ok {l : List In} (h : Scr l) {x : In} (hx : Rng x) : setE l x = 0 := by
  unfold setE
  rw [h.chk, (Scr.one hx).chk]
  rfl
theorem setR_ok {l : List In} (h : Scr l) {x : In} (hx : Rng x) : setR l x = setL l x := by
  unfold setR
  rw [if_pos (setE_ok h hx)]
/-- What is set once more. -/
theorem set_again (l : List In) (x : In) : setL (setL l x) x = setL l x := by
  have hxx : aheadI x x = false := by rw [ahead_not]; omega
  have e1 : (setL l x).filter (fun y => aheadI y x) = l.filter (fun y => aheadI y x) := by
    unfold setL
    rw [List.filter_append, List.filter_append, List.filter_filter, List.filter_filter, List.filter_cons, hxx]
    have : (l.filter fun y => aheadI y x && aheadI x y) = [] := List.filter_eq_nil_iff.2 (fun y _ h => by
      rw [Bool.and_eq_true, ahead_iff, ahead_iff] at h
      omega)
    rw [this]
    simp
  have e2 : (setL l x).filter (fun y => aheadI x y) = l.filter (fun y => aheadI x y) := by
    unfold setL
    rw [List.filter_append, List.filter_append, List.filter_filter, List.filter_filter, List.filter_cons, hxx]
    have : (l.filter fun y => aheadI x y && aheadI y x) = [] := List.filter_eq_nil_iff.2 (fun y _ h => by
      rw [Bool.and_eq_true, ahead_iff, ahead_iff] at h
      omega)
    rw [this]
    simp
  show (setL l x).filter (fun y => aheadI y x) ++ [x] ++ (setL l x).filter (fun y => aheadI x y) = _
  rw [e1, e2]
  rfl
/-! ### what there is at a cycle -/
def lastV (d : Nat) (l : List In) : Nat := match l.getLast? with
  | some x => x.v
  | none => d
theorem lastV_cons (d : Nat) (x : In) (l : List In) : lastV d (x :: l) = lastV x.v l := by
  unfold lastV
  rw [List.getLast?_cons]
  cases l.getLast? <;> rfl
theorem lastV_append (d : Nat) (l m : List In) : lastV d (l ++ m) = lastV (lastV d l) m := by
  induction l generalizing d with
  | nil => rfl
  | cons x t ih => rw [List.cons_append, lastV_cons, ih, lastV_cons]
theorem lastV_some (d e : Nat) (l : List In) (h : l ≠ []) : lastV d l = lastV e l := by
  cases l with
  | nil => exact absurd rfl h
  | cons x t => rw [lastV_cons, lastV_cons]
def isP (c : Int) (x : In) : Bool := decide (x.k = 0) && decide (x.a ≤ c)
def isM (c : Int) (x : In) : Bool := decide (x.k = 2) && decide (x.a ≤ c)
def isB (c : Int) (x : In) : Bool := decide (x.k = 1) && decide (x.a = c)
theorem atF_eq (c : Int) : ∀ (l : List In) (n : Nw), atF c n l = ⟨lastV n.p (l.filter (isP c)), lastV n.m (l.filter (isM c)), n.b || !(l.filter (isB c)).isEmpty, lastV n.y (l.filter (isB c))⟩
  | [], n => by simp [atF, lastV]
  | x :: t, n => by
    rw [atF, atF_eq c t]
    have hp : (stepN c n x).p = if isP c x = true then x.v else n.p := by
      unfold stepN step1 step2 step3 isP
      simp only [Bool.and_eq_true, decide_eq_true_eq]
      repeat' split
      all_goals first | rfl | omega
    have hm : (stepN c n x).m = if isM c x = true then x.v else n.m := by
      unfold stepN step1 step2 step3 isM
      simp only [Bool.and_eq_true, decide_eq_true_eq]
      repeat' split
      all_goals first | rfl | omega
    have hb : (stepN c n x).b = if isB c x = true then true else n.b := by
      unfold stepN step1 step2 step3 isB
      simp only [Bool.and_eq_true, decide_eq_true_eq]
      repeat' split
      all_goals first | rfl | omega
    have hy : (stepN c n x).y = if isB c x = true then x.v else n.y := by
      unfold stepN step1 step2 step3 isB
      simp only [Bool.and_eq_true, decide_eq_true_eq]
      repeat' split
      all_goals first | rfl | omega
    rw [hp, hm, hb, hy, List.filter_cons, List.filter_cons, List.filter_cons]
    cases isP c x <;> cases isM c x <;> cases isB c x <;> simp [lastV_cons]
theorem Scr.at_ {l : List In} (h : Scr l) {c : Int} (hc : 1 ≤ c) : atL l c = ⟨lastV 0 (l.filter (isP c)), lastV 0 (l.filter (isM c)), !(l.filter (isB c)).isEmpty, lastV 0 (l.filter (isB c))⟩ := by
  unfold atL
  rw [h.chk, if_neg (by rintro (h | h); exact h rfl; omega), atF_eq]
  rfl
/-- A sorted list without the key of x. -/
theorem split_at (x : In) : ∀ l : List In, l.Pairwise (fun y z => aheadI y z = true) → (∀ y ∈ l, aheadI y x = true ∨ aheadI x y = true) → l.filter (fun y => aheadI y x) ++ l.filter (fun y => aheadI x y) = l
  | [], _, _ => rfl
  | y :: t, h, hk => by
    rw [List.pairwise_cons] at h
    have ih := split_at x t h.2 (fun z hz => hk z (by simp [hz]))
    rcases hk y (by simp) with h1 | h1
    · have h2 : aheadI x y = false := by
        rw [ahead_not]
        rw [ahead_iff] at h1
        omega
      rw [List.filter_cons, List.filter_cons, if_pos h1, h2]
      simp only [Bool.false_eq_true, if_false]
      rw [List.cons_append, ih]
    · have hall : ∀ z ∈ t, aheadI x z = true := fun z hz => ahead_trans h1 (h.1 z hz)
      have h2 : aheadI y x = false := by
        rw [ahead_not]
        rw [ahead_iff] at h1
        omega
      have e0 : t.filter (fun z => aheadI z x) = [] := List.filter_eq_nil_iff.2 (fun z hz hh => by
        have := hall z hz
        rw [ahead_iff] at this hh
        omega)
      have e1 : t.filter (fun z => aheadI x z) = t := List.filter_eq_self.2 hall
      rw [List.filter_cons, List.filter_cons, if_pos h1, h2, e0, e1]
      rfl
/-- What is told of those of one kind, if x is none of them. -/
theorem set_other {l : List In} (h : Scr l) (x : In) (p : In → Bool) (hp : p x = false) (hk : ∀ y, y.a = x.a → y.k = x.k → p y = p x) : (setL l x).filter p = l.filter p := by
  unfold setL
  rw [List.filter_append, List.filter_append, List.filter_cons, hp]
  have c1 : (l.filter fun y => aheadI y x).filter p = (l.filter p).filter (fun y => aheadI y x) := by rw [List.filter_filter, List.filter_filter]; congr 1; funext y; exact Bool.and_comm _ _
  have c2 : (l.filter fun y => aheadI x y).filter p = (l.filter p).filter (fun y => aheadI x y) := by rw [List.filter_filter, List.filter_filter]; congr 1; funext y; exact Bool.and_comm _ _
  rw [c1, c2]
  have := split_at x (l.filter p) (h.srt.filter p) (fun y hy => by
    have hpy := (List.mem_filter.1 hy).2
    rw [ahead_iff, ahead_iff]
    by_cases e : y.a = x.a ∧ y.k = x.k
    · rw [hk y e.1 e.2, hp] at hpy
      cases hpy
    · omega)
  simpa using this
/-- If x is one of them. -/
theorem set_here {l : List In} (x : In) (p : In → Bool) (hp : p x = true) : (setL l x).filter p = (l.filter p).filter (fun y => aheadI y x) ++ (x :: (l.filter p).filter (fun y => aheadI x y)) := by
  unfold setL
  have c1 : (l.filter fun y => aheadI y x).filter p = (l.filter p).filter (fun y => aheadI y x) := by rw [List.filter_filter, List.filter_filter]; congr 1; funext y; exact Bool.and_comm _ _
  have c2 : (l.filter fun y => aheadI x y).filter p = (l.filter p).filter (fun y => aheadI x y) := by rw [List.filter_filter, List.filter_filter]; congr 1; funext y; exact Bool.and_comm _ _
  rw [List.filter_append, List.filter_append, List.filter_cons, hp, c1, c2]
  simp
/-- The last one of those, if some lie behind x: the same; if none: x. -/
theorem last_set {l : List In} (h : Scr l) (x : In) (p : In → Bool) (hp : p x = true) (d : Nat) : lastV d ((setL l x).filter p) = if (l.filter p).filter (fun y => aheadI x y) = [] then x.v else lastV d (l.filter p) := by
  rw [set_here x p hp, lastV_append, lastV_cons]
  split
  · rename_i e
    rw [e]
    rfl
  · rename_i e
    have hs : ∀ t : List In, t.Pairwise (fun y z => aheadI y z = true) → t.filter (fun y => aheadI x y) ≠ [] → lastV d t = lastV x.v (t.filter fun y => aheadI x y) := by
      intro t ht hne
      induction t generalizing d with
      | nil => exact absurd rfl hne
      | cons y t ih =>
        rw [List.pairwise_cons] at ht
        rw [lastV_cons, List.filter_cons] at *
        by_cases hy : aheadI x y = true
        · have e1 : t.filter (fun z => aheadI x z) = t := List.filter_eq_self.2 (fun z hz => ahead_trans hy (ht.1 z hz))
          rw [if_pos hy, e1, lastV_cons]
        · rw [if_neg hy] at hne ⊢
          exact ih y.v ht.2 hne
    exact (hs (l.filter p) (h.srt.filter p) e).symm
end Go.Proofs.Ytimlhckihkjifaa
