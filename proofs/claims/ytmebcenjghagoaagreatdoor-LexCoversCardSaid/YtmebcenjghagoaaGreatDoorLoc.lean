/-
  Two texts that agree around a place have the same token there. No condition.
-/
import Derived.Test.YtmebcenjghagoaaGreatDoorSortsM
namespace Go.Proofs.YtmebcenjghagoaaGreatDoor
open Go.RowKit

theorem ext_bAt (a b : ByteArray) (hs : a.size = b.size) (h : ∀ i, i < a.size → bAt a i = bAt b i) : a = b := by
  refine ByteArray.ext (Array.ext hs fun i h1 h2 => ?_)
  have h3 := h i h1
  rw [← bAt_eq a i h1, ← bAt_eq b i h2] at h3
  exact UInt8.toNat_inj.1 h3
/-- No word goes on at q. -/
def NoW (s : ByteArray) (q : Nat) : Prop := q < s.size → isL (bAt s q) = false ∧ isD (bAt s q) = false
/-- A blank stands at q, or the text ends there. -/
def NoM (s : ByteArray) (q : Nat) : Prop := q < s.size → isB (bAt s q) = true
theorem NoM.noW {s : ByteArray} {q : Nat} (h : NoM s q) : NoW s q := fun hq => ⟨(excl_B _ (h hq)).1, (excl_B _ (h hq)).2.1⟩
/-- Two texts agree on n bytes, and no word goes on behind. -/
structure Loc (s : ByteArray) (p : Nat) (s' : ByteArray) (p' n : Nat) : Prop where
  h1 : p + n ≤ s.size
  h2 : p' + n ≤ s'.size
  eq : ∀ i, i < n → bAt s' (p' + i) = bAt s (p + i)
  st : NoW s (p + n)
  st' : NoW s' (p' + n)
variable {s s' : ByteArray} {p p' n : Nat}
theorem Loc.next (h : Loc s p s' p' (n + 1)) : Loc s (p + 1) s' (p' + 1) n := by
  refine ⟨by have := h.h1; omega, by have := h.h2; omega, fun i hi => ?_, ?_, ?_⟩
  · have := h.eq (i + 1) (by omega)
    rwa [show p' + (i + 1) = p' + 1 + i from by omega, show p + (i + 1) = p + 1 + i from by omega] at this
  · have := h.st
    rwa [show p + (n + 1) = p + 1 + n from by omega] at this
  · have := h.st'
    rwa [show p' + (n + 1) = p' + 1 + n from by omega] at this
theorem Loc.wend (h : Loc s p s' p' n) : wend s p ≤ p + n ∧ Go.Proofs.YtmebcenjghagoaaGreatDoor.wend s' p' = p' + (Go.Proofs.YtmebcenjghagoaaGreatDoor.wend s p - p) := by
  induction n generalizing p p' with
  | zero =>
    have e1 : Go.Proofs.YtmebcenjghagoaaGreatDoor.wend s p = p := wend_stop s p (fun hp hc => by obtain ⟨x, y⟩ : isL (bAt s p) = false ∧ isD (bAt s p) = false := h.st hp; simp [x, y] at hc)
    have e2 : Go.Proofs.YtmebcenjghagoaaGreatDoor.wend s' p' = p' := wend_stop s' p' (fun hp hc => by obtain ⟨x, y⟩ : isL (bAt s' p') = false ∧ isD (bAt s' p') = false := h.st' hp; simp [x, y] at hc)
    rw [e1, e2]
    omega
  | succ n ih =>
    have e0 := h.eq 0 (by omega)
    rw [Nat.add_zero, Nat.add_zero] at e0
    by_cases hc : isL (bAt s p) = true ∨ isD (bAt s p) = true
    · rw [wend_step s p (by have := h.h1; omega) hc, wend_step s' p' (by have := h.h2; omega) (by rwa [e0])]
      obtain ⟨a, b⟩ := ih h.next
      have := wend_ge s (p + 1)
      omega
    · rw [wend_stop s p (fun _ => hc), wend_stop s' p' (fun _ => by rwa [e0])]
      omega
theorem hexS_not (b : Nat) (hl : isL b = false) (hd : isD b = false) : hexS b = -1 := by
  have h1 : ¬ (97 ≤ b ∧ b ≤ 102) := by
    intro h
    have : isL b = true := by simp only [isL, Bool.or_eq_true, Bool.and_eq_true, decide_eq_true_eq]; omega
    rw [this] at hl; cases hl
  have h2 : ¬ (65 ≤ b ∧ b ≤ 70) := by
    intro h
    have : isL b = true := by simp only [isL, Bool.or_eq_true, Bool.and_eq_true, decide_eq_true_eq]; omega
    rw [this] at hl; cases hl
  unfold hexS
  rw [if_neg (by simp [hd]), if_neg h1, if_neg h2]
theorem Loc.num (h : Loc s p s' p' n) (base v : Int) : (numS s base p v).2 ≤ p + n ∧ numS s' base p' v = ((numS s base p v).1, p' + ((numS s base p v).2 - p)) := by
  induction n generalizing p p' v with
  | zero =>
    have e1 : numS s base p v = (v, p) := numS_stop s base p v (fun hp hc => by obtain ⟨x, y⟩ : isL (bAt s p) = false ∧ isD (bAt s p) = false := h.st hp; rw [hexS_not _ x y] at hc; omega)
    have e2 : numS s' base p' v = (v, p') := numS_stop s' base p' v (fun hp hc => by obtain ⟨x, y⟩ : isL (bAt s' p') = false ∧ isD (bAt s' p') = false := h.st' hp; rw [hexS_not _ x y] at hc; omega)
    rw [e1, e2]
    refine ⟨by simp only; omega, ?_⟩
    simp
  | succ n ih =>
    have e0 := h.eq 0 (by omega)
    rw [Nat.add_zero, Nat.add_zero] at e0
    by_cases hc : 0 ≤ hexS (bAt s p) ∧ hexS (bAt s p) < base
    · rw [numS_step s base p v (by have := h.h1; omega) hc, numS_step s' base p' v (by have := h.h2; omega) (by rwa [e0]), e0]
      obtain ⟨a, b⟩ := ih h.next (capS (v * base + hexS (bAt s p)))
      have hg := numS_ge s base (p + 1) (capS (v * base + hexS (bAt s p)))
      refine ⟨by omega, ?_⟩
      rw [b]
      congr 1
      omega
    · rw [numS_stop s base p v (fun _ => hc), numS_stop s' base p' v (fun _ => by rwa [e0])]
      refine ⟨by simp only; omega, ?_⟩
      simp
theorem Loc.isX (h : Loc s p s' p' n) (hn : 1 ≤ n) : isX s' p' = Go.Proofs.YtmebcenjghagoaaGreatDoor.isX s p := by
  have e0 := h.eq 0 (by omega)
  rw [Nat.add_zero, Nat.add_zero] at e0
  have a1 := h.h1
  have a2 := h.h2
  by_cases h2 : 2 ≤ n
  · have e1 := h.eq 1 (by omega)
    unfold Go.Proofs.YtmebcenjghagoaaGreatDoor.isX
    rw [e0, e1]
    simp [show p + 1 < s.size from by omega, show p' + 1 < s'.size from by omega]
  · obtain rfl : n = 1 := by omega
    have f : ∀ (t : ByteArray) (q : Nat), NoW t (q + 1) → Go.Proofs.YtmebcenjghagoaaGreatDoor.isX t q = false := by
      intro t q hq
      unfold Go.Proofs.YtmebcenjghagoaaGreatDoor.isX
      by_cases hl : q + 1 < t.size
      · have := (hq hl).1
        have h3 : bAt t (q + 1) ≠ 120 := by intro h4; rw [h4] at this; cases this
        simp [h3]
      · simp [hl]
    rw [f s p h.st, f s' p' h.st']
theorem Loc.numE (h : Loc s p s' p' n) (hn : 1 ≤ n) : (numE s p).2 ≤ p + n ∧ Go.Proofs.YtmebcenjghagoaaGreatDoor.numE s' p' = ((Go.Proofs.YtmebcenjghagoaaGreatDoor.numE s p).1, p' + ((Go.Proofs.YtmebcenjghagoaaGreatDoor.numE s p).2 - p)) := by
  unfold Go.Proofs.YtmebcenjghagoaaGreatDoor.numE
  rw [h.isX hn]
  by_cases hx : Go.Proofs.YtmebcenjghagoaaGreatDoor.isX s p = true
  · rw [if_pos hx, if_pos hx]
    have hxx := hx
    simp only [Go.Proofs.YtmebcenjghagoaaGreatDoor.isX, Bool.and_eq_true, decide_eq_true_eq, beq_iff_eq] at hxx
    have h2 : 2 ≤ n := by
      rcases Nat.lt_or_ge n 2 with h3 | h3
      · obtain rfl : n = 1 := by omega
        have := (h.st hxx.2.1).1
        rw [hxx.2.2] at this
        cases this
      · exact h3
    obtain ⟨k, rfl⟩ : ∃ k, n = k + 1 + 1 := ⟨n - 2, by omega⟩
    obtain ⟨a, b⟩ := h.next.next.num 16 0
    have hg := numS_ge s 16 (p + 2) 0
    rw [show p + 1 + 1 = p + 2 from rfl] at a b
    rw [show p' + 1 + 1 = p' + 2 from rfl] at b
    refine ⟨by omega, ?_⟩
    rw [b]
    congr 1
    omega
  · rw [if_neg hx, if_neg hx]
    exact h.num 10 0
theorem Loc.isW (h : Loc s p s' p' n) (k : Nat) (hk : k ≤ n) : isW s' (p' + k) = Go.Proofs.YtmebcenjghagoaaGreatDoor.isW s (p + k) := by
  have a1 := h.h1
  have a2 := h.h2
  by_cases h2 : k < n
  · unfold Go.Proofs.YtmebcenjghagoaaGreatDoor.isW
    rw [h.eq k h2]
    simp [show p + k < s.size from by omega, show p' + k < s'.size from by omega]
  · obtain rfl : k = n := by omega
    have f : ∀ (t : ByteArray) (q : Nat), NoW t q → Go.Proofs.YtmebcenjghagoaaGreatDoor.isW t q = false := by
      intro t q hq
      unfold Go.Proofs.YtmebcenjghagoaaGreatDoor.isW
      by_cases hl : q < t.size
      · simp [(hq hl).1, (hq hl).2]
      · simp [hl]
    rw [f s _ h.st, f s' _ h.st']
theorem Loc.text (h : Loc s p s' p' n) (k : Nat) (hk : k ≤ n) : s'.extract p' (p' + k) = s.extract p (p + k) := by
  have a1 := h.h1
  have a2 := h.h2
  refine ext_bAt _ _ (by rw [size_extract_of s' p' _ (by omega) (by omega), size_extract_of s p _ (by omega) (by omega)]; omega) fun i hi => ?_
  rw [size_extract_of s' p' _ (by omega) (by omega)] at hi
  rw [bAt_extract s' p' _ i (by omega) (by omega), bAt_extract s p _ i (by omega) (by omega)]
  exact h.eq i (by omega)
/-- One token, or fault, is another one, at another place. -/
structure Like (a : Tk × (Nat × Nat)) (p : Nat) (b : Tk × (Nat × Nat)) (s' : ByteArray) (p' n : Nat) : Prop where
  code : b.2.1 = a.2.1
  at_ : a.2.1 ≠ 0 → b.2.2 = p' + (a.2.2 - p) ∧ p ≤ a.2.2
  tok : a.2.1 = 0 → b.1 = ⟨a.1.k, p', lineS s' p', a.1.t, a.1.n⟩ ∧ a.1.t.size ≤ n
theorem Loc.word (h : Loc s p s' p' n) (hn : 1 ≤ n) (hw : isL (bAt s p) = true ∨ isD (bAt s p) = true) : Like (oneT s p) p (oneT s' p') s' p' n := by
  have e0 := h.eq 0 (by omega)
  rw [Nat.add_zero, Nat.add_zero] at e0
  have a1 := h.h1
  have a2 := h.h2
  unfold oneT
  rw [e0]
  by_cases hl : isL (bAt s p) = true
  · rw [if_pos hl, if_pos hl]
    obtain ⟨b1, b2⟩ := h.wend
    have hg := wend_ge s p
    unfold nameT
    rw [b2]
    by_cases hlong : 16 < Go.Proofs.YtmebcenjghagoaaGreatDoor.wend s p - p
    · rw [if_pos hlong, if_pos (by omega)]
      exact ⟨rfl, fun _ => ⟨by simp, Nat.le_refl _⟩, fun h => by cases h⟩
    · rw [if_neg hlong, if_neg (by omega)]
      have ht := h.text (Go.Proofs.YtmebcenjghagoaaGreatDoor.wend s p - p) (by omega)
      rw [show p + (Go.Proofs.YtmebcenjghagoaaGreatDoor.wend s p - p) = Go.Proofs.YtmebcenjghagoaaGreatDoor.wend s p from by omega] at ht
      rw [ht]
      exact ⟨rfl, fun h => absurd rfl h, fun _ => ⟨rfl, by rw [size_extract_of s p _ hg (by omega)]; omega⟩⟩
  · rw [if_neg hl, if_neg hl]
    have hd : isD (bAt s p) = true := hw.resolve_left hl
    rw [if_pos hd, if_pos hd]
    obtain ⟨b1, b2⟩ := h.numE hn
    have hg := (numE_first s p (by omega) hd).1
    unfold digitT
    rw [b2, h.isX hn]
    simp only
    by_cases c1 : Go.Proofs.YtmebcenjghagoaaGreatDoor.isX s p = true ∧ (Go.Proofs.YtmebcenjghagoaaGreatDoor.numE s p).2 = p + 2
    · rw [if_pos c1, if_pos ⟨c1.1, by omega⟩]
      exact ⟨rfl, fun _ => ⟨by simp only; omega, by simp only; omega⟩, fun h => by cases h⟩
    have c1' : ¬ (Go.Proofs.YtmebcenjghagoaaGreatDoor.isX s p = true ∧ p' + ((Go.Proofs.YtmebcenjghagoaaGreatDoor.numE s p).2 - p) = p' + 2) := fun c2 => c1 ⟨c2.1, by have := c2.2; omega⟩
    rw [if_neg c1, if_neg c1']
    by_cases c2 : 4294967296 ≤ (Go.Proofs.YtmebcenjghagoaaGreatDoor.numE s p).1
    · rw [if_pos c2, if_pos c2]
      exact ⟨rfl, fun _ => ⟨by simp, Nat.le_refl _⟩, fun h => by cases h⟩
    rw [if_neg c2, if_neg c2]
    have hw2 := h.isW ((Go.Proofs.YtmebcenjghagoaaGreatDoor.numE s p).2 - p) (by omega)
    rw [show p + ((Go.Proofs.YtmebcenjghagoaaGreatDoor.numE s p).2 - p) = (Go.Proofs.YtmebcenjghagoaaGreatDoor.numE s p).2 from by omega] at hw2
    rw [hw2]
    by_cases c3 : Go.Proofs.YtmebcenjghagoaaGreatDoor.isW s (Go.Proofs.YtmebcenjghagoaaGreatDoor.numE s p).2 = true
    · rw [if_pos c3, if_pos c3]
      exact ⟨rfl, fun _ => ⟨rfl, by simp only; omega⟩, fun h => by cases h⟩
    · rw [if_neg c3, if_neg c3]
      have ht := h.text ((Go.Proofs.YtmebcenjghagoaaGreatDoor.numE s p).2 - p) (by omega)
      rw [show p + ((Go.Proofs.YtmebcenjghagoaaGreatDoor.numE s p).2 - p) = (Go.Proofs.YtmebcenjghagoaaGreatDoor.numE s p).2 from by omega] at ht
      rw [ht]
      exact ⟨rfl, fun h => absurd rfl h, fun _ => ⟨rfl, by rw [size_extract_of s p _ (by omega) (by omega)]; omega⟩⟩
theorem marks_notB : ∀ m ∈ marksL, ∀ x ∈ m.data.toList, isB x.toNat = false := by decide
theorem marks_pos : ∀ m ∈ marksL, 1 ≤ m.size := by decide
theorem marks_two : ∀ m ∈ marksL, m.size ≤ 2 := by decide
theorem mark_notB (m : ByteArray) (hm : m ∈ marksL) (j : Nat) (hj : j < m.size) : isB (bAt m j) = false := by
  rw [← bAt_eq m j hj]
  exact marks_notB m hm _ (Array.getElem_mem_toList _)
theorem isM_iff (s : ByteArray) (p : Nat) (m : ByteArray) (h1 : 1 ≤ m.size) : isM s p m = true ↔ ∀ j, j < m.size → p + j < s.size ∧ bAt s (p + j) = bAt m j := by
  refine ⟨fun h j hj => ?_, isM_of s p m h1⟩
  by_cases hc : p + j < s.size ∧ bAt s (p + j) = bAt m j
  · exact hc
  · have := isM_not s p m j hj (fun h2 h3 => hc ⟨h2, h3⟩)
    rw [this] at h
    cases h
theorem Loc.isM (h : Loc s p s' p' n) (hb : NoM s (p + n)) (hb' : NoM s' (p' + n)) (m : ByteArray) (hm : m ∈ marksL) : isM s' p' m = Go.Proofs.YtmebcenjghagoaaGreatDoor.isM s p m := by
  have a1 := h.h1
  have a2 := h.h2
  by_cases hs : m.size ≤ n
  · rw [Bool.eq_iff_iff, isM_iff _ _ _ (marks_pos m hm), isM_iff _ _ _ (marks_pos m hm)]
    constructor
    · intro hh j hj
      have := hh j hj
      rw [h.eq j (by omega)] at this
      exact ⟨by omega, this.2⟩
    · intro hh j hj
      have := hh j hj
      rw [h.eq j (by omega)]
      exact ⟨by omega, this.2⟩
  · have hn := mark_notB m hm n (by omega)
    rw [isM_not s' p' m n (by omega) (fun h1 h2 => by have := hb' h1; rw [h2, hn] at this; cases this), isM_not s p m n (by omega) (fun h1 h2 => by have := hb h1; rw [h2, hn] at this; cases this)]
theorem find_same {α : Type} (f g : α → Bool) (l : List α) (h : ∀ x ∈ l, f x = g x) : l.find? f = l.find? g := by
  induction l with
  | nil => rfl
  | cons a l ih =>
    rw [List.find?_cons, List.find?_cons, h a (by simp), ih (fun x hx => h x (by simp [hx]))]
theorem Loc.one (h : Loc s p s' p' n) (hn : 1 ≤ n) (hb : NoM s (p + n)) (hb' : NoM s' (p' + n)) : Like (oneT s p) p (oneT s' p') s' p' n := by
  by_cases hw : isL (bAt s p) = true ∨ isD (bAt s p) = true
  · exact h.word hn hw
  have e0 := h.eq 0 (by omega)
  rw [Nat.add_zero, Nat.add_zero] at e0
  have hl : ¬ isL (bAt s p) = true := fun h => hw (Or.inl h)
  have hd : ¬ isD (bAt s p) = true := fun h => hw (Or.inr h)
  unfold oneT
  rw [e0, if_neg hl, if_neg hl, if_neg hd, if_neg hd]
  unfold markT
  have hm : markS s' p' marksL = markS s p marksL := find_same _ _ _ fun m hm => h.isM hb hb' m hm
  rw [hm]
  cases hf : markS s p marksL with
  | none => exact ⟨rfl, fun _ => ⟨by simp, Nat.le_refl _⟩, fun h => by cases h⟩
  | some m =>
    refine ⟨rfl, fun h => absurd rfl h, fun _ => ⟨rfl, ?_⟩⟩
    show m.size ≤ n
    have h3 := List.find?_some hf
    have h4 := List.mem_of_find?_eq_some hf
    rw [isM_iff _ _ _ (marks_pos m h4)] at h3
    rcases Nat.lt_or_ge n m.size with h5 | h5
    · have h6 := h3 n h5
      have := hb h6.1
      rw [h6.2, mark_notB m h4 n h5] at this
      cases this
    · exact h5
theorem oneT_zero (s : ByteArray) (p : Nat) (h : (oneT s p).2.1 = 0) : (oneT s p).2 = (0, 0) := by
  revert h
  unfold oneT nameT digitT markT
  split
  · split
    · intro h; cases h
    · intro _; rfl
  split
  · split
    · intro h; cases h
    split
    · intro h; cases h
    split
    · intro h; cases h
    · intro _; rfl
  · split
    · intro _; rfl
    · intro h; cases h
theorem lineS_zero (s : ByteArray) : lineS s 0 = 1 := by
  unfold lineS
  rw [Nat.zero_min, nls_self]
def alone1 (m : ByteArray) : Bool := !isL (bAt m 0) && (!isD (bAt m 0) && (match markS m 0 marksL with | some x => x.data.toList == m.data.toList | none => false))
theorem alone_all : marksL.all alone1 = true := by kernel_rfl
theorem wend_noW (s : ByteArray) (p : Nat) : NoW s (wend s p) := by
  intro h
  rw [← span6_wend] at h ⊢
  have := span_end (ofK 6) s p h
  rw [(ofK_all _).2.2.1, Bool.or_eq_false_iff] at this
  exact this
theorem isW_noW (s : ByteArray) (q : Nat) (h : ¬ isW s q = true) : NoW s q := by
  intro hq
  simp only [isW, Bool.and_eq_true, decide_eq_true_eq, hq, true_and, Bool.or_eq_true, not_or, Bool.not_eq_true] at h
  exact h
theorem loc_cut (s : ByteArray) (p q : Nat) (h1 : p ≤ q) (h2 : q ≤ s.size) (h3 : NoW s q) : Loc s p (s.extract p q) 0 (q - p) := by
  have hz := size_extract_of s p q h1 h2
  refine ⟨by omega, by omega, fun i hi => ?_, ?_, fun h => ?_⟩
  · rw [Nat.zero_add]
    exact bAt_extract s p q i h2 (by omega)
  · rwa [show p + (q - p) = q from by omega]
  · omega
/-- A token's own bytes alone are that token. -/
theorem oneT_alone (s : ByteArray) (p : Nat) (hp : p < s.size) (h : (oneT s p).2.1 = 0) : oneT (oneT s p).1.t 0 = (⟨(oneT s p).1.k, 0, 1, (oneT s p).1.t, (oneT s p).1.n⟩, (0, 0)) := by
  have key : ∀ q, p + 1 ≤ q → q ≤ s.size → NoW s q → (isL (bAt s p) = true ∨ isD (bAt s p) = true) → (oneT s p).1.t = s.extract p q → oneT (oneT s p).1.t 0 = (⟨(oneT s p).1.k, 0, 1, (oneT s p).1.t, (oneT s p).1.n⟩, (0, 0)) := by
    intro q h1 h2 h3 hw ht
    have hl := (loc_cut s p q (by omega) h2 h3).word (by omega) hw
    rw [← ht] at hl
    have hc := hl.code
    rw [h] at hc
    have he := (hl.tok h).1
    rw [lineS_zero] at he
    rw [← he, ← oneT_zero _ _ hc]
  by_cases hl : isL (bAt s p) = true
  · have e : oneT s p = nameT s p := by unfold oneT; rw [if_pos hl]
    have hg : p + 1 ≤ wend s p := by rw [wend_step s p hp (Or.inl hl)]; exact wend_ge s (p + 1)
    refine key (wend s p) hg (wend_le s p (by omega)) (wend_noW s p) (Or.inl hl) ?_
    revert h
    rw [e]
    unfold nameT
    split
    · intro h; cases h
    · intro _; rfl
  by_cases hd : isD (bAt s p) = true
  · have e : oneT s p = digitT s p := by unfold oneT; rw [if_neg hl, if_pos hd]
    obtain ⟨h1, h2, _⟩ := numE_first s p hp hd
    have e2 : (oneT s p).1.t = s.extract p (numE s p).2 ∧ NoW s (numE s p).2 := by
      revert h
      rw [e]
      unfold digitT
      split
      · intro h; cases h
      split
      · intro h; cases h
      split
      · intro h; cases h
      · rename_i c3
        intro _
        exact ⟨rfl, isW_noW s _ c3⟩
    exact key (numE s p).2 h1 h2 e2.2 (Or.inr hd) e2.1
  · revert h
    have e : oneT s p = markT s p := by unfold oneT; rw [if_neg hl, if_neg hd]
    rw [e]
    unfold markT
    cases hf : markS s p marksL with
    | none => intro h; cases h
    | some m =>
      intro _
      simp only
      have h4 := List.mem_of_find?_eq_some hf
      have ha := List.all_eq_true.1 alone_all m h4
      unfold alone1 at ha
      simp only [Bool.and_eq_true, Bool.not_eq_true'] at ha
      obtain ⟨c1, c2, c3⟩ := ha
      unfold oneT
      rw [if_neg (by simp [c1]), if_neg (by simp [c2])]
      unfold markT
      rw [lineS_zero]
      revert c3
      cases markS m 0 marksL with
      | none => intro h; cases h
      | some x =>
        intro h
        have hx : x = m := ByteArray.ext (Array.toList_inj.1 (by simpa using h))
        rw [hx]
end Go.Proofs.YtmebcenjghagoaaGreatDoor
