/-
  Numbers of digits to the base 10 and 16, plain: what ParseUint answers at 32 bits, against the document's value. No condition.
-/
import Derived.Test.YtmebcenjghagoaaGreatDoorName
namespace Go.Proofs.YtmebcenjghagoaaGreatDoor
open Go.RowKit

/-- The value of the digits from k up to e, behind acc; none: it is no number of 32 bits. -/
def puS (t : ByteArray) (b : Nat) (k e : Nat) (acc : Nat) : Option Nat :=
  if k < e then if 4294967295 < acc * b + (hexS (bAt t k)).toNat then none else puS t b (k + 1) e (acc * b + (hexS (bAt t k)).toNat) else some acc
termination_by e - k
theorem pu_end (t : ByteArray) (b k e acc : Nat) (h : ¬ k < e) : puS t b k e acc = some acc := by rw [puS, if_neg h]
theorem pu_over (t : ByteArray) (b k e acc : Nat) (h : k < e) (h2 : 4294967295 < acc * b + (hexS (bAt t k)).toNat) : puS t b k e acc = none := by rw [puS, if_pos h, if_pos h2]
theorem pu_step (t : ByteArray) (b k e acc : Nat) (h : k < e) (h2 : ¬ 4294967295 < acc * b + (hexS (bAt t k)).toNat) : puS t b k e acc = puS t b (k + 1) e (acc * b + (hexS (bAt t k)).toNat) := by rw [puS, if_pos h, if_neg h2]
theorem pu_le (t : ByteArray) (b k e acc v : Nat) (ha : acc ≤ 4294967295) (h : puS t b k e acc = some v) : v ≤ 4294967295 := by
  induction hn : e - k generalizing k acc with
  | zero => rw [pu_end t b k e acc (by omega)] at h; cases h; exact ha
  | succ n ih =>
    by_cases h2 : 4294967295 < acc * b + (hexS (bAt t k)).toNat
    · rw [pu_over t b k e acc (by omega) h2] at h; cases h
    · rw [pu_step t b k e acc (by omega) h2] at h
      exact ih (k + 1) _ (by omega) h (by omega)
theorem hexS_D (b : Nat) (h : isD b = true) : hexS b = (b : Int) - 48 := by unfold hexS; rw [if_pos h]
theorem isD_bd (b : Nat) (h : isD b = true) : 48 ≤ b ∧ b ≤ 57 := by
  simp only [isD, Bool.and_eq_true, decide_eq_true_eq] at h
  exact h
theorem isH_bd (b : Nat) (h : isH b = true) : (97 ≤ b ∧ b ≤ 102 ∧ hexS b = (b : Int) - 87) ∨ (65 ≤ b ∧ b ≤ 70 ∧ hexS b = (b : Int) - 55) := by
  have hd : isD b = false := by
    rw [Bool.eq_false_iff]
    intro hc
    have := (excl_D b hc).2
    rw [this] at h
    cases h
  simp only [isH, Bool.or_eq_true, Bool.and_eq_true, decide_eq_true_eq] at h
  rcases h with h | h
  · exact Or.inl ⟨h.1, h.2, by unfold hexS; rw [if_neg (by simp [hd]), if_pos h]⟩
  · exact Or.inr ⟨h.1, h.2, by unfold hexS; rw [if_neg (by simp [hd]), if_neg (by omega), if_pos h]⟩
theorem dig10 (b : Nat) : ofK 4 b = true ↔ (0 ≤ hexS b ∧ hexS b < 10) := by
  rw [(ofK_all b).2.1]
  constructor
  · intro h
    have := isD_bd b h
    rw [hexS_D b h]
    omega
  · intro h
    rcases hexS_ways b with ⟨_, _, h2, _⟩ | ⟨_, _, _, h2⟩ | ⟨_, _, _, h2⟩ | ⟨_, _, h2⟩
    · exact h2
    · omega
    · omega
    · omega
theorem dig16 (b : Nat) : ofK 8 b = true ↔ (0 ≤ hexS b ∧ hexS b < 16) := by
  rw [(ofK_all b).2.2.2, Bool.or_eq_true]
  constructor
  · rintro (h | h)
    · have := isD_bd b h
      rw [hexS_D b h]
      omega
    · rcases isH_bd b h with h | h <;> omega
  · intro h
    rcases hexS_ways b with ⟨_, _, h2, _⟩ | ⟨h2, h3, _, _⟩ | ⟨h2, h3, _, _⟩ | ⟨_, _, h2⟩
    · exact Or.inl h2
    · exact Or.inr (by simp [isH]; omega)
    · exact Or.inr (by simp [isH]; omega)
    · omega
/-- The document's number ends where the digits end. -/
theorem numS_end (s : ByteArray) (b : Int) (m : Nat) (hb : ∀ c, ofK m c = true ↔ (0 ≤ hexS c ∧ hexS c < b)) (p : Nat) (n : Int) : (numS s b p n).2 = spanS (ofK m) s p := by
  induction h : s.size - p generalizing p n with
  | zero => rw [numS_stop s b p n (fun hh => absurd hh (by omega)), span_stop (ofK m) s p (fun hh => absurd hh (by omega))]
  | succ k ih =>
    by_cases hc : p < s.size ∧ ofK m (bAt s p) = true
    · rw [numS_step s b p n hc.1 ((hb _).1 hc.2), span_step (ofK m) s p hc.1 hc.2]
      exact ih (p + 1) _ (by omega)
    · rw [numS_stop s b p n (fun hh h2 => hc ⟨hh, (hb _).2 h2⟩), span_stop (ofK m) s p (fun hh => Bool.eq_false_iff.2 fun hf => hc ⟨hh, hf⟩)]
theorem numS_big (s : ByteArray) (b : Int) (hb : 1 ≤ b) (p : Nat) (n : Int) (hn : 4294967296 ≤ n) : 4294967296 ≤ (numS s b p n).1 := by
  induction h : s.size - p generalizing p n with
  | zero => rw [numS_stop s b p n (fun hh => absurd hh (by omega))]; exact hn
  | succ k ih =>
    by_cases hc : p < s.size ∧ 0 ≤ hexS (bAt s p) ∧ hexS (bAt s p) < b
    · rw [numS_step s b p n hc.1 hc.2]
      refine ih (p + 1) _ ?_ (by omega)
      have h1 : n ≤ n * b := by
        have := Int.mul_le_mul_of_nonneg_left hb (show 0 ≤ n by omega)
        rwa [Int.mul_one] at this
      unfold capS
      split <;> omega
    · rw [numS_stop s b p n (fun hh h2 => hc ⟨hh, h2⟩)]; exact hn
/-- The document's number against ParseUint's. -/
theorem numS_pu (s : ByteArray) (b m : Nat) (hb : ∀ c, ofK m c = true ↔ (0 ≤ hexS c ∧ hexS c < (b : Int))) (h1 : 1 ≤ b) (p acc : Nat) (ha : acc ≤ 4294967295) :
    match puS s b p (spanS (ofK m) s p) acc with
    | some v => (numS s (b : Int) p (acc : Int)).1 = (v : Int)
    | none => 4294967296 ≤ (numS s (b : Int) p (acc : Int)).1 := by
  induction h : s.size - p generalizing p acc with
  | zero =>
    have e : spanS (ofK m) s p = p := span_stop (ofK m) s p (fun hh => absurd hh (by omega))
    rw [e, pu_end s b p p acc (by omega), numS_stop s b p acc (fun hh => absurd hh (by omega))]
  | succ k ih =>
    by_cases hc : p < s.size ∧ ofK m (bAt s p) = true
    · have hd := (hb _).1 hc.2
      have e := span_step (ofK m) s p hc.1 hc.2
      have hge := span_ge (ofK m) s (p + 1)
      rw [e, numS_step s b p acc hc.1 hd]
      have ec : ((acc * b + (hexS (bAt s p)).toNat : Nat) : Int) = (acc : Int) * (b : Int) + hexS (bAt s p) := by
        rw [Int.natCast_add, Int.natCast_mul, Int.toNat_of_nonneg hd.1]
      by_cases h2 : 4294967295 < acc * b + (hexS (bAt s p)).toNat
      · rw [pu_over s b p _ acc (by omega) h2]
        refine numS_big s b (by omega) (p + 1) _ ?_
        unfold capS
        split <;> omega
      · rw [pu_step s b p _ acc (by omega) h2]
        have h3 : capS ((acc : Int) * (b : Int) + hexS (bAt s p)) = ((acc * b + (hexS (bAt s p)).toNat : Nat) : Int) := by
          unfold capS
          rw [if_neg (by omega), ec]
        rw [h3]
        exact ih (p + 1) _ (by omega) (by omega)
    · have e : spanS (ofK m) s p = p := span_stop (ofK m) s p (fun hh => Bool.eq_false_iff.2 fun hf => hc ⟨hh, hf⟩)
      rw [e, pu_end s b p p acc (by omega), numS_stop s b p acc (fun hh h2 => hc ⟨hh, (hb _).2 h2⟩)]
theorem bAt_extract (s : ByteArray) (p e k : Nat) (he : e ≤ s.size) (hk : p + k < e) : bAt (s.extract p e) k = bAt s (p + k) := by
  have h1 : k < (s.extract p e).size := by rw [ByteArray.size_extract]; omega
  rw [← bAt_eq (s.extract p e) k h1, ← bAt_eq s (p + k) (by omega), ByteArray.getElem_extract]
theorem pu_extract (s : ByteArray) (b p e k acc : Nat) (he : e ≤ s.size) (hp : p ≤ e) : puS (s.extract p e) b k (e - p) acc = puS s b (p + k) e acc := by
  induction h : e - p - k generalizing k acc with
  | zero => rw [pu_end _ b k (e - p) acc (by omega), pu_end s b (p + k) e acc (by omega)]
  | succ n ih =>
    have e1 := bAt_extract s p e k he (by omega)
    by_cases h2 : 4294967295 < acc * b + (hexS (bAt s (p + k))).toNat
    · rw [pu_over _ b k (e - p) acc (by omega) (by rw [e1]; exact h2), pu_over s b (p + k) e acc (by omega) h2]
    · rw [pu_step _ b k (e - p) acc (by omega) (by rw [e1]; exact h2), pu_step s b (p + k) e acc (by omega) h2, e1]
      exact ih (k + 1) _ (by omega)
/-- The bytes between are digits. -/
theorem span_in (f : Nat → Bool) (s : ByteArray) (p i : Nat) (h1 : p ≤ i) (h2 : i < spanS f s p) : f (bAt s i) = true := by
  induction hn : s.size - p generalizing p with
  | zero =>
    rw [span_stop f s p (fun hh => absurd hh (by omega))] at h2
    omega
  | succ n ih =>
    by_cases hc : p < s.size ∧ f (bAt s p) = true
    · rcases Nat.lt_or_eq_of_le h1 with h | rfl
      · rw [span_step f s p hc.1 hc.2] at h2
        exact ih (p + 1) h h2 (by omega)
      · exact hc.2
    · rw [span_stop f s p (fun hh => Bool.eq_false_iff.2 fun hf => hc ⟨hh, hf⟩)] at h2
      omega
/-- The shelf's word for base 10, at digits. -/
theorem parse_pu (t : ByteArray) (k acc : Nat) (ha : acc ≤ 4294967295) (hd : ∀ i, k ≤ i → i < t.size → isD (bAt t i) = true) :
    Lib.parseUintM 4294967295 acc (t.data.toList.drop k) = match puS t 10 k t.size acc with | some v => .ok v | none => .range := by
  induction h : t.size - k generalizing k acc with
  | zero => rw [List.drop_eq_nil_of_le (by simp; omega), pu_end t 10 k t.size acc (by omega)]; rfl
  | succ n ih =>
    have hk : k < t.size := by omega
    have hdk := hd k (Nat.le_refl _) hk
    have hbd := isD_bd _ hdk
    have hx := hexS_D _ hdk
    have hb := bAt_eq t k hk
    rw [drop_cons t k hk]
    have e : (hexS (bAt t k)).toNat = t[k].toNat - 48 := by rw [hx, hb]; omega
    have hdig : 48 ≤ t[k].toNat ∧ t[k].toNat ≤ 57 := by rw [hb]; exact hbd
    have hcut : ¬ 1844674407370955162 ≤ acc := by omega
    rw [Lib.parseUintM, if_pos hdig, if_neg hcut]
    by_cases h2 : 4294967295 < acc * 10 + (t[k].toNat - 48)
    · rw [if_pos h2, pu_over t 10 k t.size acc hk (by rw [e]; exact h2)]
    · rw [if_neg h2, pu_step t 10 k t.size acc hk (by rw [e]; exact h2), e]
      exact ih (k + 1) _ (by omega) (fun i h3 h4 => hd i (by omega) h4) (by omega)
end Go.Proofs.YtmebcenjghagoaaGreatDoor
