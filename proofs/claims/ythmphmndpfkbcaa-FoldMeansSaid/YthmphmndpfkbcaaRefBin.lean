/-
  The document's own Bin by its contract: it answers what the program's does.
-/
import Derived.Test.YthmphmndpfkbcaaRefB2
namespace Go.Proofs.Ythmphmndpfkbcaa
open Go.RowKit
set_option linter.unusedVariables false
/-- 1 of what is so. -/
def tr (b : Bool) : Int := if b then 1 else 0
theorem refTruth (b : Bool) (w : World) : Calls Try.prog 38 #[.bool b] w fun e w' => e = .returned (.int .i32 (tr b)) ∧ w' = w := by
  cases b
  all_goals
    go_enter Try.func38, Try.ntmps38
    go_wp2
    go_ret
    exact ⟨rfl, rfl⟩
/-- A type has n bits, and b's count is c. -/
structure Counts (t b : Int) (n : Int) (c : Nat) : Prop where
  bits : nbits t = n
  up : (b.tmod n + n).tmod n = (c : Int)
  lo : -n < b.tmod n
  hi : b.tmod n < n
  le : c ≤ 31
  cnt : (cnt t b).toNat = c
theorem counts (t b : Int) : ∃ n c, Counts t b n c ∧ (n = 16 ∨ n = 32) := by
  by_cases ht : t = 1
  · refine ⟨16, (b % 16).toNat, ⟨if_pos ht, ?_, (tmod_lt2 b 16 (by decide)).1, (tmod_lt2 b 16 (by decide)).2, by omega, ?_⟩, .inl rfl⟩
    · rw [tmod_up b 16 (by decide)]
      omega
    · rw [Go.Proofs.Ythmphmndpfkbcaa.cnt, if_pos ht]
  · refine ⟨32, (b % 32).toNat, ⟨if_neg ht, ?_, (tmod_lt2 b 32 (by decide)).1, (tmod_lt2 b 32 (by decide)).2, by omega, ?_⟩, .inr rfl⟩
    · rw [tmod_up b 32 (by decide)]
      omega
    · rw [Go.Proofs.Ythmphmndpfkbcaa.cnt, if_neg ht]
theorem bits_at (t n : Int) (w : World) (h : nbits t = n) : Calls Try.prog 36 #[.int .i64 t] w fun e w' => e = .returned (.int .i64 n) ∧ w' = w := h ▸ refBits_any t w
theorem quo_rem (a b : Int) (ha : -2147483648 ≤ a) (ha2 : a ≤ 2147483647) : -2147483648 ≤ b * a.tdiv b ∧ b * a.tdiv b ≤ 2147483648 ∧ a - b * a.tdiv b = a.tmod b := by
  have h2 := Int.tmod_add_mul_tdiv a b
  have h3 := tmod_bd a b ha ha2
  have h4 : (b * a.tdiv b).natAbs ≤ a.natAbs := by
    rw [Int.natAbs_mul, Int.natAbs_tdiv]
    exact Nat.mul_div_le _ _
  omega
theorem shr_way (a p : Int) (hp : 1 ≤ p) : (a - a % p).tdiv p = a / p := by
  have h := Int.emod_add_mul_ediv a p
  have h2 : a - a % p = p * (a / p) := by omega
  rw [h2, Int.mul_tdiv_cancel_left _ (by omega)]
set_option maxRecDepth 100000 in
set_option maxHeartbeats 1600000 in
theorem refBinA (op t a b : Int) (w : World) (hop : op = 9 ∨ op = 12 ∨ op = 13) (ha : -2147483648 ≤ a) (ha2 : a ≤ 2147483647) (hb : -2147483648 ≤ b) (hb2 : b ≤ 2147483647) :
    Calls Try.prog 25 #[.int .i64 op, .int .i64 t, .int .i32 a, .int .i32 b] w fun e w' => e = .returned (.tuple #[.int .i32 (binV op t a b), .bool true]) ∧ Drawn w w' := by
  obtain ⟨m1, m2⟩ := mul_bd a b ha ha2 hb hb2
  obtain ⟨n, c, ⟨hn, hu, hl, hh, hc, hcc⟩, hn2⟩ := counts t b
  rcases hn2 with rfl | rfl <;> rcases hop with rfl | rfl | rfl
  all_goals
    go_enter Try.func25, Try.ntmps25
    go_wp2
    go_quiet ((go_at_call 36; with_reducible exact Calls.quiet_of_same (bits_at _ _ _ hn)))
    go_wp2_with ((go_at_call 22; refine (refWrap_any _ _ _ (by omega) (by omega)).mono ?_; rintro e w' ⟨rfl, rfl⟩))
    go_ret2
    exact ⟨ret_bin (by simp [binV]), by first | exact Drawn.refl _ | exact (Drawn.refl _).more _ | exact ((Drawn.refl _).more _).more _⟩
set_option maxRecDepth 100000 in
set_option maxHeartbeats 1600000 in
theorem refBinD (op t a b : Int) (w : World) (hop : op = 10 ∨ op = 11) (hz : b ≠ 0) (ha : -2147483648 ≤ a) (ha2 : a ≤ 2147483647) (hb : -2147483648 ≤ b) (hb2 : b ≤ 2147483647) :
    Calls Try.prog 25 #[.int .i64 op, .int .i64 t, .int .i32 a, .int .i32 b] w fun e w' => e = .returned (.tuple #[.int .i32 (binV op t a b), .bool true]) ∧ Drawn w w' := by
  have hz2 : (b == 0) = false := by simpa using hz
  obtain ⟨d1, d2⟩ := tdiv_bd a b ha ha2
  obtain ⟨r1, r2, r3⟩ := quo_rem a b ha ha2
  have t1 := tmod_bd a b ha ha2
  obtain ⟨q, hq⟩ : ∃ q, a.tdiv b = q := ⟨_, rfl⟩
  obtain ⟨m, hm⟩ : ∃ m, b * q = m := ⟨_, rfl⟩
  rw [hq] at d1 d2 r1 r2 r3
  rw [hm] at r1 r2 r3
  obtain ⟨t2, t3⟩ := t1
  rw [← r3] at t2 t3
  have HQ : Hid (binV op t a b = if op = 10 then wrapT t q else a - m) := by
    rcases hop with rfl | rfl
    · simp [binV, hq, Hid]
    · simp [binV, r3, Hid]
  clear r3
  obtain ⟨n, c, ⟨hn, hu, hl, hh, hc, hcc⟩, hn2⟩ := counts t b
  rcases hn2 with rfl | rfl <;> rcases hop with rfl | rfl
  all_goals
    go_enter Try.func25, Try.ntmps25
    go_wp2
    go_quiet ((go_at_call 36; with_reducible exact Calls.quiet_of_same (bits_at _ _ _ hn)))
    go_wp2_with ((go_at_call 22; refine (refWrap_any _ _ _ (by omega) (by omega)).mono ?_; rintro e w' ⟨rfl, rfl⟩))
    go_ret2
    exact ⟨ret_bin (by rw [HQ.out]; rfl), by first | exact Drawn.refl _ | exact (Drawn.refl _).more _ | exact ((Drawn.refl _).more _).more _⟩
set_option maxRecDepth 100000 in
set_option maxHeartbeats 1600000 in
theorem refBinL (op t a b : Int) (w : World) (hop : op = 14) (ha : -2147483648 ≤ a) (ha2 : a ≤ 2147483647) (hb : -2147483648 ≤ b) (hb2 : b ≤ 2147483647) :
    Calls Try.prog 25 #[.int .i64 op, .int .i64 t, .int .i32 a, .int .i32 b] w fun e w' => e = .returned (.tuple #[.int .i32 (binV op t a b), .bool true]) ∧ Drawn w w' := by
  obtain ⟨n, c, ⟨hn, hu, hl, hh, hc, hcc⟩, hn2⟩ := counts t b
  obtain ⟨p, HP⟩ : ∃ p : Int, Hid (p = 2 ^ c) := ⟨_, rfl⟩
  have hp := pow_bd c hc
  have s1 := shl_bd a c ha ha2 hc
  have s2 := shr_bd a c ha ha2 hc
  have HV : Hid (binV 14 t a b = wrapT t (a * p) ∧ binV 15 t a b = a / p) := by
    refine ⟨?_, ?_⟩ <;> simp [binV, hcc, HP.out]
  rw [← HP.out] at hp s1 s2
  obtain ⟨p2, p1⟩ := hp
  have hpz : (p == 0) = false := by
    have : p ≠ 0 := by omega
    simpa using this
  obtain ⟨s11, s12⟩ := s1
  obtain ⟨s21, s22⟩ := s2
  subst hop
  rcases hn2 with rfl | rfl
  all_goals
    go_enter Try.func25, Try.ntmps25
    go_wp2
    go_quiet ((go_at_call 36; with_reducible exact Calls.quiet_of_same (bits_at _ _ _ hn)))
    go_wp2_with (first | (go_at_call 37; with_reducible refine (two_p c p HP.out (by omega) _).mono ?_; rintro e w' ⟨rfl, rfl⟩) | (go_at_call 22; refine (refWrap_any _ _ _ (by omega) (by omega)).mono ?_; rintro e w' ⟨rfl, rfl⟩))
    go_ret2
    exact ⟨ret_bin (by rw [HV.out.1]), by first | exact Drawn.refl _ | exact (Drawn.refl _).more _ | exact ((Drawn.refl _).more _).more _⟩
set_option maxRecDepth 100000 in
set_option maxHeartbeats 1600000 in
theorem refBinR (op t a b : Int) (w : World) (hop : op = 15) (ha : -2147483648 ≤ a) (ha2 : a ≤ 2147483647) (hb : -2147483648 ≤ b) (hb2 : b ≤ 2147483647) :
    Calls Try.prog 25 #[.int .i64 op, .int .i64 t, .int .i32 a, .int .i32 b] w fun e w' => e = .returned (.tuple #[.int .i32 (binV op t a b), .bool true]) ∧ Drawn w w' := by
  obtain ⟨n, c, ⟨hn, hu, hl, hh, hc, hcc⟩, hn2⟩ := counts t b
  obtain ⟨p, HP⟩ : ∃ p : Int, Hid (p = 2 ^ c) := ⟨_, rfl⟩
  have hp := pow_bd c hc
  have s1 := shl_bd a c ha ha2 hc
  have s2 := shr_bd a c ha ha2 hc
  have HV : Hid (binV 14 t a b = wrapT t (a * p) ∧ binV 15 t a b = a / p) := by
    refine ⟨?_, ?_⟩ <;> simp [binV, hcc, HP.out]
  rw [← HP.out] at hp s1 s2
  obtain ⟨p2, p1⟩ := hp
  have hpz : (p == 0) = false := by
    have : p ≠ 0 := by omega
    simpa using this
  obtain ⟨s11, s12⟩ := s1
  obtain ⟨s21, s22⟩ := s2
  subst hop
  have u1 := tmod_up a p (by omega)
  obtain ⟨l1, l2⟩ := tmod_lt2 a p (by omega)
  have e1 := Int.emod_nonneg a (show p ≠ 0 by omega)
  have e2 := Int.emod_lt_of_pos a (show 0 < p by omega)
  have v1 := shr_way a p p1
  clear s11 s12
  obtain ⟨r, hr⟩ : ∃ r, a.tmod p = r := ⟨_, rfl⟩
  rw [hr] at u1 l1 l2
  generalize a % p = m at *
  generalize a / p = d at *
  have hc2 : c ≤ 32 := by omega
  rcases hn2 with rfl | rfl
  all_goals
    go_enter Try.func25, Try.ntmps25
    go_wp2
    go_quiet ((go_at_call 36; with_reducible exact Calls.quiet_of_same (bits_at _ _ _ hn)))
    go_wp2
    go_quiet ((go_at_call 37; exact (two_p c p HP.out hc2 _).mono fun e w' h => ⟨h.1, _, h.2⟩))
    go_wp2_with ((go_at_call 37; with_reducible refine (two_p c p HP.out (by omega) _).mono ?_; rintro e w' ⟨rfl, rfl⟩))
    go_ret2
    exact ⟨ret_bin (by rw [HV.out.2]), by first | exact Drawn.refl _ | exact (Drawn.refl _).more _ | exact ((Drawn.refl _).more _).more _⟩
set_option maxRecDepth 100000 in
set_option maxHeartbeats 1600000 in
theorem refBinC (op t a b : Int) (w : World) (hop : op = 16 ∨ op = 17 ∨ op = 18 ∨ op = 19 ∨ op = 20 ∨ op = 21) (ha : -2147483648 ≤ a) (ha2 : a ≤ 2147483647) (hb : -2147483648 ≤ b) (hb2 : b ≤ 2147483647) :
    Calls Try.prog 25 #[.int .i64 op, .int .i64 t, .int .i32 a, .int .i32 b] w fun e w' => e = .returned (.tuple #[.int .i32 (binV op t a b), .bool true]) ∧ Drawn w w' := by
  obtain ⟨n, c, ⟨hn, hu, hl, hh, hc, hcc⟩, hn2⟩ := counts t b
  rcases hn2 with rfl | rfl <;> rcases hop with rfl | rfl | rfl | rfl | rfl | rfl
  all_goals
    go_enter Try.func25, Try.ntmps25
    go_wp2
    go_quiet ((go_at_call 36; with_reducible exact Calls.quiet_of_same (bits_at _ _ _ hn)))
    go_wp2_with ((go_at_call 38; refine (refTruth _ _).mono ?_; rintro e w' ⟨rfl, rfl⟩))
    go_ret2
    exact ⟨ret_bin (by simp [binV, tr]), by first | exact Drawn.refl _ | exact (Drawn.refl _).more _ | exact ((Drawn.refl _).more _).more _⟩
set_option maxRecDepth 100000 in
set_option maxHeartbeats 1600000 in
theorem refBinB (op t a b : Int) (w : World) (hop : op = 22 ∨ op = 23 ∨ op = 24) (ha : -2147483648 ≤ a) (ha2 : a ≤ 2147483647) (hb : -2147483648 ≤ b) (hb2 : b ≤ 2147483647) :
    Calls Try.prog 25 #[.int .i64 op, .int .i64 t, .int .i32 a, .int .i32 b] w fun e w' => e = .returned (.tuple #[.int .i32 (binV op t a b), .bool true]) ∧ Drawn w w' := by
  obtain ⟨n, c, ⟨hn, hu, hl, hh, hc, hcc⟩, hn2⟩ := counts t b
  have HZ := opN_lt op _ _ (low32_lt a) (low32_lt b)
  have HV : Hid (binV op t a b = wrapT 2 (opN op (low32 a) (low32 b) : Int)) := by
    rcases hop with rfl | rfl | rfl
    · rw [bits_low a b 22 .and (.inl ⟨rfl, rfl⟩)]
      simp [binV, Hid]
    · rw [bits_low a b 23 .xor (.inr (.inl ⟨rfl, rfl⟩))]
      simp [binV, Hid]
    · rw [bits_low a b 24 .or (.inr (.inr ⟨rfl, rfl⟩))]
      simp [binV, Hid]
  rcases hn2 with rfl | rfl <;> rcases hop with rfl | rfl | rfl
  all_goals
    go_enter Try.func25, Try.ntmps25
    go_wp2
    go_quiet ((go_at_call 36; with_reducible exact Calls.quiet_of_same (bits_at _ _ _ hn)))
    go_wp2_with (first | (go_at_call 39; refine (refBitwise_any _ a b _ (by simp) ha ha2 hb hb2).mono ?_; rintro e w1 ⟨rfl, hb1⟩) | (go_at_call 22; refine (refWrap_any _ _ _ (by omega) (by omega)).mono ?_; rintro e w' ⟨rfl, rfl⟩))
    go_ret2
    exact ⟨ret_bin (by rw [HV.out]), ((Drawn.refl _).more _).trans hb1⟩
set_option maxRecDepth 100000 in
theorem refBinZ (op t a : Int) (w : World) (hop : op = 10 ∨ op = 11) :
    Calls Try.prog 25 #[.int .i64 op, .int .i64 t, .int .i32 a, .int .i32 0] w fun e w' => e = .returned (.tuple #[.int .i32 0, .bool false]) ∧ Drawn w w' := by
  obtain ⟨n, c, ⟨hn, hu, hl, hh, hc, hcc⟩, hn2⟩ := counts t 0
  rcases hn2 with rfl | rfl <;> rcases hop with rfl | rfl
  all_goals
    go_enter Try.func25, Try.ntmps25
    go_wp2
    go_quiet ((go_at_call 36; with_reducible exact Calls.quiet_of_same (bits_at _ _ _ hn)))
    go_wp2
    go_ret2
    exact ⟨rfl, by first | exact Drawn.refl _ | exact (Drawn.refl _).more _⟩
theorem refBin_yes (op t a b : Int) (w : World) (h9 : 9 ≤ op) (h24 : op ≤ 24) (hz : ¬ ((op = 10 ∨ op = 11) ∧ b = 0)) (ha : -2147483648 ≤ a) (ha2 : a ≤ 2147483647) (hb : -2147483648 ≤ b) (hb2 : b ≤ 2147483647) :
    Calls Try.prog 25 #[.int .i64 op, .int .i64 t, .int .i32 a, .int .i32 b] w fun e w' => e = .returned (.tuple #[.int .i32 (binV op t a b), .bool true]) ∧ Drawn w w' := by
  rcases (by omega : (op = 9 ∨ op = 12 ∨ op = 13) ∨ (op = 10 ∨ op = 11) ∨ op = 14 ∨ op = 15 ∨ (op = 16 ∨ op = 17 ∨ op = 18 ∨ op = 19 ∨ op = 20 ∨ op = 21) ∨ (op = 22 ∨ op = 23 ∨ op = 24)) with h | h | h | h | h | h
  · exact refBinA op t a b w h ha ha2 hb hb2
  · exact refBinD op t a b w h (fun h0 => hz ⟨h, h0⟩) ha ha2 hb hb2
  · exact refBinL op t a b w h ha ha2 hb hb2
  · exact refBinR op t a b w h ha ha2 hb hb2
  · exact refBinC op t a b w h ha ha2 hb hb2
  · exact refBinB op t a b w h ha ha2 hb hb2
theorem refBin_no (op t a b : Int) (w : World) (h : (op = 10 ∨ op = 11) ∧ b = 0) :
    Calls Try.prog 25 #[.int .i64 op, .int .i64 t, .int .i32 a, .int .i32 b] w fun e w' => e = .returned (.tuple #[.int .i32 0, .bool false]) ∧ Drawn w w' := by
  obtain ⟨h1, rfl⟩ := h
  exact refBinZ op t a w h1
end Go.Proofs.Ythmphmndpfkbcaa
