/-
  The document's own 'one' at a name: by its contract. Condition: the text is shorter than 2^46 bytes.
-/
import Derived.Test.YtmebcenjghagoaaGreatDoorRefN
namespace Go.Proofs.YtmebcenjghagoaaGreatDoor
open Go.RowKit

/-- The end of letters and digits from p on. -/
def wend (s : ByteArray) (p : Nat) : Nat := if p < s.size ∧ (isL (bAt s p) = true ∨ isD (bAt s p) = true) then wend s (p + 1) else p
termination_by s.size - p
theorem wend_step (s : ByteArray) (p : Nat) (h : p < s.size) (h2 : isL (bAt s p) = true ∨ isD (bAt s p) = true) : wend s p = wend s (p + 1) := by rw [wend, if_pos ⟨h, h2⟩]
theorem wend_stop (s : ByteArray) (p : Nat) (h : p < s.size → ¬ (isL (bAt s p) = true ∨ isD (bAt s p) = true)) : wend s p = p := by rw [wend, if_neg (fun h2 => h h2.1 h2.2)]
theorem wend_ge (s : ByteArray) (p : Nat) : p ≤ wend s p := by
  induction h : s.size - p generalizing p with
  | zero => rw [wend, if_neg (by omega)]; exact Nat.le_refl _
  | succ n ih =>
    rw [wend]
    split
    · have := ih (p + 1) (by omega)
      omega
    · exact Nat.le_refl _
theorem wend_le (s : ByteArray) (p : Nat) (hp : p ≤ s.size) : wend s p ≤ s.size := by
  induction h : s.size - p generalizing p with
  | zero => rw [wend, if_neg (by omega)]; exact hp
  | succ n ih =>
    rw [wend]
    split
    · exact ih (p + 1) (by omega) (by omega)
    · exact hp
/-- A token as a value. -/
def tokV (k p l : Nat) (t : ByteArray) (n : Int) : Value := .agg #[.int .i64 (k : Int), .int .i64 (p : Int), .int .i64 (l : Int), .string t, .int .i64 n]
def fltV (c a : Nat) : Value := .agg #[.int .i64 (c : Int), .int .i64 (a : Int)]
/-- What 'one' answers at a name. -/
def nameV (s : ByteArray) (p : Nat) : Value := .tuple (if 16 < wend s p - p then #[tokV 0 p (lineS s p) ByteArray.empty 0, fltV 4 p] else #[tokV 1 p (lineS s p) (s.extract p (wend s p)) 0, fltV 0 0])
theorem nameV_long (s : ByteArray) (p q : Nat) (h : wend s p = q) (h2 : 16 < q - p) : nameV s p = .tuple #[.agg #[.int .i64 0, .int .i64 (p : Int), .int .i64 ((lineS s p : Nat) : Int), .string ⟨#[]⟩, .int .i64 0], .agg #[.int .i64 4, .int .i64 (p : Int)]] := by
  unfold nameV; rw [h, if_pos h2]; rfl
theorem nameV_short (s : ByteArray) (p q : Nat) (h : wend s p = q) (h2 : ¬ 16 < q - p) : nameV s p = .tuple #[.agg #[.int .i64 1, .int .i64 (p : Int), .int .i64 ((lineS s p : Nat) : Int), .string (s.extract p q), .int .i64 0], .agg #[.int .i64 0, .int .i64 0]] := by
  unfold nameV; rw [h, if_neg h2]; rfl
set_option maxRecDepth 100000 in
set_option maxHeartbeats 4000000 in
theorem rone_name (s : ByteArray) (p : Nat) (w : World) (hs : s.size ≤ 70368744177664) (hp : p < s.size) (hL : isL (bAt s p) = true) :
    Calls Tryz.prog 44 #[.string s, .int .i64 (p : Int)] w fun e w' => e = .returned (nameV s p) ∧ Below w.heap.size w w' := by
  have HLi := Lib.hid (fun w => rLine_any s (p : Int) w hs (by omega))
  have HLe := Lib.hid rLetter_any
  have HDi := Lib.hid rDigit_any
  have hbb := bAt_eq s p hp
  go_enter Tryz.func44, Tryz.ntmps44
  go_wp2_with (first | (go_at_call 11; refine (HLi.out _).mono ?_; rintro e w' ⟨rfl, rfl⟩) | (go_at_call 18; refine (HLe.out _ _).mono ?_; rintro e w' ⟨rfl, rfl⟩))
  go_loop [8] (fun i => ∃ q : Nat, p ≤ q ∧ q ≤ s.size ∧ i = .int .i64 q ∧ Hid (wend s q = wend s p)) (fun i => s.size - (intOf i).toNat)
  case atStart => exact ⟨p, Nat.le_refl _, by omega, rfl, rfl⟩
  case round =>
    obtain ⟨q, hpq, hq, rfl, HQ⟩ := hrel
    by_cases hgo : q < s.size ∧ (isL (bAt s q) = true ∨ isD (bAt s q) = true)
    · obtain ⟨hq2, hld⟩ := hgo
      have hbq := bAt_eq s q hq2
      have HQ2 : Hid (wend s (q + 1) = wend s p) := by rw [Hid, ← wend_step s q hq2 hld]; exact HQ.out
      clear HQ
      by_cases hl : isL (bAt s q) = true
      · clear hld
        go_wp2_with (first | (go_at_call 18; refine (HLe.out _ _).mono ?_; rintro e w' ⟨rfl, rfl⟩) | (go_at_call 17; refine (HDi.out _ _).mono ?_; rintro e w' ⟨rfl, rfl⟩))
        go_round
        case rel => exact ⟨q + 1, by omega, by omega, by go_num, HQ2⟩
        case measure => simp [intOf]; omega
      · have hd : isD (bAt s q) = true := by simpa [hl] using hld
        have hl2 : isL (bAt s q) = false := by simpa using hl
        clear hld hl
        go_wp2_with (first | (go_at_call 18; refine (HLe.out _ _).mono ?_; rintro e w' ⟨rfl, rfl⟩) | (go_at_call 17; refine (HDi.out _ _).mono ?_; rintro e w' ⟨rfl, rfl⟩))
        go_round
        case rel => exact ⟨q + 1, by omega, by omega, by go_num, HQ2⟩
        case measure => simp [intOf]; omega
    · have HE : Hid (wend s p = q) := by rw [Hid, ← HQ.out]; exact wend_stop s q (fun h h2 => hgo ⟨h, h2⟩)
      clear HQ
      by_cases hlong : 16 < q - p
      · have hi : (16 : Int) < (q : Int) - (p : Int) := by omega
        have HN := Lib.hid (nameV_long s p q HE.out hlong)
        by_cases hq2 : q < s.size
        · have hbq := bAt_eq s q hq2
          have hl2 : isL (bAt s q) = false := by rw [Bool.eq_false_iff]; exact fun h => hgo ⟨hq2, Or.inl h⟩
          have hd2 : isD (bAt s q) = false := by rw [Bool.eq_false_iff]; exact fun h => hgo ⟨hq2, Or.inr h⟩
          clear hgo
          go_wp2_with (first | (go_at_call 18; refine (HLe.out _ _).mono ?_; rintro e w' ⟨rfl, rfl⟩) | (go_at_call 17; refine (HDi.out _ _).mono ?_; rintro e w' ⟨rfl, rfl⟩))
          refine bodyPost_ret (v := .tuple #[.agg #[.int .i64 0, .int .i64 (p : Int), .int .i64 ((lineS s p : Nat) : Int), .string ⟨#[]⟩, .int .i64 0], .agg #[.int .i64 4, .int .i64 (p : Int)]]) (by simp [results, Tryz.results44, go_sem]) rfl ⟨by rw [HN.out], ?_⟩
          exact (((Below.refl _ _).alloc (Nat.le_refl _) _).alloc (by simp) _).alloc (by simp; omega) _
        · clear hgo
          go_wp2_with (first | (go_at_call 18; refine (HLe.out _ _).mono ?_; rintro e w' ⟨rfl, rfl⟩) | (go_at_call 17; refine (HDi.out _ _).mono ?_; rintro e w' ⟨rfl, rfl⟩))
          refine bodyPost_ret (v := .tuple #[.agg #[.int .i64 0, .int .i64 (p : Int), .int .i64 ((lineS s p : Nat) : Int), .string ⟨#[]⟩, .int .i64 0], .agg #[.int .i64 4, .int .i64 (p : Int)]]) (by simp [results, Tryz.results44, go_sem]) rfl ⟨by rw [HN.out], ?_⟩
          exact (((Below.refl _ _).alloc (Nat.le_refl _) _).alloc (by simp) _).alloc (by simp; omega) _
      · have hi : ¬ (16 : Int) < (q : Int) - (p : Int) := by omega
        have HN := Lib.hid (nameV_short s p q HE.out hlong)
        have hpq2 : (p : Int) ≤ (q : Int) := by omega
        by_cases hq2 : q < s.size
        · have hbq := bAt_eq s q hq2
          have hl2 : isL (bAt s q) = false := by rw [Bool.eq_false_iff]; exact fun h => hgo ⟨hq2, Or.inl h⟩
          have hd2 : isD (bAt s q) = false := by rw [Bool.eq_false_iff]; exact fun h => hgo ⟨hq2, Or.inr h⟩
          clear hgo
          go_wp2_with (first | (go_at_call 18; refine (HLe.out _ _).mono ?_; rintro e w' ⟨rfl, rfl⟩) | (go_at_call 17; refine (HDi.out _ _).mono ?_; rintro e w' ⟨rfl, rfl⟩))
          refine bodyPost_ret (v := .tuple #[.agg #[.int .i64 1, .int .i64 (p : Int), .int .i64 ((lineS s p : Nat) : Int), .string (s.extract p q), .int .i64 0], .agg #[.int .i64 0, .int .i64 0]]) (by simp [results, Tryz.results44, go_sem]) rfl ⟨by rw [HN.out], ?_⟩
          exact (((Below.refl _ _).alloc (Nat.le_refl _) _).alloc (by simp) _).alloc (by simp; omega) _
        · clear hgo
          go_wp2_with (first | (go_at_call 18; refine (HLe.out _ _).mono ?_; rintro e w' ⟨rfl, rfl⟩) | (go_at_call 17; refine (HDi.out _ _).mono ?_; rintro e w' ⟨rfl, rfl⟩))
          refine bodyPost_ret (v := .tuple #[.agg #[.int .i64 1, .int .i64 (p : Int), .int .i64 ((lineS s p : Nat) : Int), .string (s.extract p q), .int .i64 0], .agg #[.int .i64 0, .int .i64 0]]) (by simp [results, Tryz.results44, go_sem]) rfl ⟨by rw [HN.out], ?_⟩
          exact (((Below.refl _ _).alloc (Nat.le_refl _) _).alloc (by simp) _).alloc (by simp; omega) _
end Go.Proofs.YtmebcenjghagoaaGreatDoor
