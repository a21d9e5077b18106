/-
  What GpioEdges asks of bits. Plain mathematics; and asks, by its contract.
-/
import Derived.Test.YticeeeomhdcffaaBitL
namespace Go.Proofs.Yticeeeomhdcffaa
open Go.RowKit
set_option linter.unusedVariables false
def risesB (i l n : Nat) : Bool := !bitB i n && bitB l n
theorem mem_riseK (i l k n : Nat) : n ∈ riseK i l k ↔ n < k ∧ risesB i l n = true := by simp [riseK, risesB]
theorem riseK_same (l k : Nat) : riseK l l k = [] := by
  unfold riseK
  rw [List.filter_eq_nil_iff]
  intro n _
  cases bitB l n <;> simp
theorem asks_same (e l : Nat) : asksL e (riseK l l 8) = false := by rw [riseK_same]; rfl
theorem bitB_pow (n m : Nat) : bitB (2 ^ n) m = decide (n = m) := by
  rw [bitB_testBit, Nat.testBit_two_pow]
theorem asks_one (i l n : Nat) (h : n < 8) : asksL (2 ^ n) (riseK i l 8) = risesB i l n := by
  rw [Bool.eq_iff_iff, asksL, List.any_eq_true]
  constructor
  · rintro ⟨m, hm, hb⟩
    rw [bitB_pow, decide_eq_true_iff] at hb
    subst hb
    exact ((mem_riseK _ _ _ _).1 hm).2
  · intro hr
    exact ⟨n, (mem_riseK _ _ _ _).2 ⟨h, hr⟩, by rw [bitB_pow]; simp⟩
theorem asks_succ (e i l k : Nat) : asksL e (riseK i l (k + 1)) = (asksL e (riseK i l k) || (bitB e k && risesB i l k)) := by
  rw [riseK_succ]
  cases h : (!bitB i k && bitB l k)
  · have : risesB i l k = false := h
    rw [this]
    simp
  · have : risesB i l k = true := h
    rw [this]
    simp [asksL_snoc]
theorem asks_more (e m : Nat) (L : List Nat) (h : asksL e L = true) : asksL (e ||| m) L = true := by
  rw [asksL, List.any_eq_true] at h ⊢
  obtain ⟨n, hn, hb⟩ := h
  refine ⟨n, hn, ?_⟩
  rw [bitB_testBit] at hb ⊢
  rw [Nat.testBit_or, hb]
  rfl
def orL (L : List Nat) : Nat := L.foldl (fun x n => x ||| 2 ^ n) 0
theorem orL_snoc (L : List Nat) (n : Nat) : orL (L ++ [n]) = orL L ||| 2 ^ n := by simp [orL]
theorem foldl_or (L : List Nat) (x n : Nat) : (L.foldl (fun x n => x ||| 2 ^ n) x).testBit n = (x.testBit n || decide (n ∈ L)) := by
  induction L generalizing x with
  | nil => simp
  | cons m r ih =>
    rw [List.foldl_cons, ih, Nat.testBit_or, Nat.testBit_two_pow, Bool.eq_iff_iff]
    simp
    constructor
    · rintro ((h | h) | h)
      · exact .inl h
      · exact .inr (.inl h.symm)
      · exact .inr (.inr h)
    · rintro (h | h | h)
      · exact .inl (.inl h)
      · exact .inl (.inr h.symm)
      · exact .inr h
theorem orL_bit (L : List Nat) (n : Nat) : (orL L).testBit n = decide (n ∈ L) := by rw [orL, foldl_or]; simp
theorem foldl_or_lt (L : List Nat) (x : Nat) (hx : x < 256) (h : ∀ n ∈ L, n < 8) : L.foldl (fun x n => x ||| 2 ^ n) x < 256 := by
  induction L generalizing x with
  | nil => exact hx
  | cons m r ih =>
    have hm : 2 ^ m < 2 ^ 8 := Nat.pow_lt_pow_right (by decide) (h m (by simp))
    exact ih _ (Nat.or_lt_two_pow (n := 8) hx hm) (fun n hn => h n (by simp [hn]))
theorem orL_lt (L : List Nat) (h : ∀ n ∈ L, n < 8) : orL L < 256 := foldl_or_lt L 0 (by decide) h
theorem or_rises (i l : Nat) (hi : i < 256) (hl : l < 256) : orL (riseK i l 8) = l &&& (255 - i) := by
  apply Nat.eq_of_testBit_eq
  intro n
  rw [orL_bit, Nat.testBit_and, show 255 - i = 2 ^ 8 - (i + 1) by omega, Nat.testBit_two_pow_sub_succ (by omega), Bool.eq_iff_iff]
  simp only [decide_eq_true_iff, mem_riseK, risesB, bitB_testBit, Bool.and_eq_true, Bool.not_eq_true']
  constructor
  · rintro ⟨h1, h2, h3⟩
    exact ⟨h3, h1, h2⟩
  · rintro ⟨h3, h1, h2⟩
    exact ⟨h1, h2, h3⟩
theorem rise_asc (i l k : Nat) : ∀ (j a b : Nat), (riseK i l k)[j]? = some a → (riseK i l k)[j + 1]? = some b → a < b := by
  have hs : (riseK i l k).Pairwise (· < ·) := List.Pairwise.filter _ (List.pairwise_lt_range)
  intro j a b ha hb
  obtain ⟨h1, rfl⟩ := List.getElem?_eq_some_iff.1 ha
  obtain ⟨h2, rfl⟩ := List.getElem?_eq_some_iff.1 hb
  exact List.pairwise_iff_getElem.1 hs j (j + 1) h1 h2 (by omega)
set_option maxRecDepth 100000 in
theorem asks_any (H : GpioOk) (o i e level : Nat) (w : World) (ho : o < 256) (hi : i < 256) (he : e < 256) (hv : level < 256) :
    Calls Try.prog 16 #[gv o i e, .int .u8 level] w fun x w' => x = .returned (.bool (asksL e (riseK i level 8))) ∧ Below w.heap.size w w' := by
  have HP := Lib.hid (fun W => H.pins o i e level W ho hi he hv)
  generalize asksL e (riseK i level 8) = b at *
  unfold gv at HP ⊢
  go_enter Try.func16, Try.ntmps16
  go_wp2_with (first
    | (go_at_call 8; refine (HP.out _).mono ?_; rintro x w1 ⟨rfl, hB⟩
       have HB1 : Hid (Below w.heap.size w w1) := Lib.hid (((Below.refl _ _).alloc (Nat.le_refl _) _).trans (hB.mono (by simp)))
       clear hB)
    | ((with_reducible show wpList _ _ _ (⟨none, .store 24 (.tmp 5) (.tmp 11), _, _, _, _⟩ :: _) _ _); refine wpList_store_g rfl 24 _ _ rfl (w1.heap.size) (by exact rfl) o level e (by exact rfl) (by kernel_rfl) 24 _ _ _ (show GRow _ _ _ 0 0 0 from alloc_at _ _) ?_; intro w2 HN HO HB2))
  go_ret
  exact ⟨rfl, (HB1.out.alloc HB1.out.size _).trans (HB2.out.mono HB1.out.size)⟩
end Go.Proofs.Yticeeeomhdcffaa
