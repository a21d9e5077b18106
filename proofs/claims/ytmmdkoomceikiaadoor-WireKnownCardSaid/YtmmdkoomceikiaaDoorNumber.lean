/-
  (*In).number by its contract: which number stands at the place, of how many bytes, and what is wrong with it. Condition: the listed variables hold what they hold; the text is shorter than 2^47 bytes.
-/
import Derived.Test.YtmmdkoomceikiaaDoorIn
namespace Go.Proofs.YtmmdkoomceikiaaDoor
open Go.RowKit
/-- Byte i of a text. -/
def bAt (s : ByteArray) (i : Nat) : Nat := if h : i < s.size then s[i].toNat else 0
theorem bAt_eq (s : ByteArray) (i : Nat) (h : i < s.size) : s[i].toNat = bAt s i := by simp [bAt, h]
theorem bAt_lt (s : ByteArray) (i : Nat) : bAt s i < 256 := by
  unfold bAt; split
  · exact UInt8.toNat_lt _
  · omega
/-- The number of the first k + 1 bytes at p. -/
def nval (s : ByteArray) (p : Nat) : Nat → Nat
  | 0 => bAt s p % 64
  | k + 1 => nval s p k * 256 + bAt s (p + 1 + k)
theorem nval_lt (s : ByteArray) (p k : Nat) : nval s p k < 64 * 256 ^ k := by
  induction k with
  | zero => have := Nat.mod_lt (bAt s p) (show 64 > 0 by decide); simpa [nval] using this
  | succ k ih =>
    have := bAt_lt s (p + 1 + k)
    simp only [nval, Nat.pow_succ]
    omega
theorem nval_lt6 (s : ByteArray) (p k : Nat) (h : k ≤ 6) : nval s p k < 18014398509481984 := by
  have h1 := nval_lt s p k
  have h2 : 256 ^ k ≤ 256 ^ 6 := Nat.pow_le_pow_right (by decide) h
  omega
theorem nval_lt7 (s : ByteArray) (p k : Nat) (h : k ≤ 7) : nval s p k < 4611686018427387904 := by
  have h1 := nval_lt s p k
  have h2 : 256 ^ k ≤ 256 ^ 7 := Nat.pow_le_pow_right (by decide) h
  omega
theorem join_byte (a x : Nat) (ha : a < 18014398509481984) (hx : x < 256) : bits .or .u64 ((a : Int) * 256) (x : Int) = ((a * 256 + x : Nat) : Int) := by
  have e := u64_or_nat (a * 256) x (by omega) (by omega)
  rw [show ((a : Int) * 256) = ((a * 256 : Nat) : Int) from by omega, e]
  congr 1
  exact nat_join 8 (a * 256) x (by omega) hx

/-- What 'number' answers at p: the number, how many bytes, the error's number. -/
def numR (s : ByteArray) (p : Nat) : Nat × Nat × Nat :=
  if s.size ≤ p then (0, 0, 3)
  else if s.size - p < szc (bAt s p / 64) then (0, 0, 3)
  else if cls (nval s p (szc (bAt s p / 64) - 1)) < bAt s p / 64 then (0, 0, 5)
  else (nval s p (szc (bAt s p / 64) - 1), szc (bAt s p / 64), 0)

theorem Laid.size_at {w : World} (h : Laid w) (c : Nat) (hc : c < 4) : w.cell? ⟨0, c, none⟩ = some (.int .i64 (szc c : Int)) := by
  match c, hc with
  | 0, _ => exact h.s0
  | 1, _ => exact h.s1
  | 2, _ => exact h.s2
  | 3, _ => exact h.s3
theorem Laid.drewN {w : World} (h : Laid w) (k : Nat) : Laid (w.drewN k) := ⟨h.s0, h.s1, h.s2, h.s3, h.et⟩

def numOut (N c z : Nat) : Value := if cls N < c then .tuple #[.int .u64 0, .int .i64 0, .int .i64 5] else .tuple #[.int .u64 (N : Int), .int .i64 (z : Int), .int .i64 0]
set_option maxHeartbeats 1000000 in
theorem number_none (b : Nat) (s : ByteArray) (w : World) (h0 : w.cell? ⟨b, 0, none⟩ = some (.string s)) (h : w.cell? ⟨b, 1, none⟩ = some (.int .i64 (s.size : Int))) (hs : s.size ≤ 140737488355328) :
    Calls Tryd.prog 49 #[.pointer (some ⟨b, 0, none⟩)] w fun e w' => e = .returned (.tuple #[.int .u64 0, .int .i64 0, .int .i64 3]) ∧ ∃ n, w' = w.drewN n := by
  have hF := Lib.hid (first_none b s w h0 h hs)
  go_enter Tryd.func49, Tryd.ntmps49
  go_wp2_with (first | (go_at_call 51; refine hF.out.mono ?_; rintro e w' ⟨rfl, n, rfl⟩))
  go_ret3
  exact ⟨rfl, _, rfl⟩

set_option maxHeartbeats 1000000 in
theorem number_short (b p c z : Nat) (s : ByteArray) (w : World) (h0 : w.cell? ⟨b, 0, none⟩ = some (.string s)) (h : w.cell? ⟨b, 1, none⟩ = some (.int .i64 (p : Int))) (hp : p < s.size) (hs : s.size ≤ 140737488355328)
    (hc : c < 4) (hcc : ((bAt s p : Nat) : Int) / 64 = (c : Int)) (hz : w.cell? ⟨0, c, none⟩ = some (.int .i64 (z : Int))) (hlong : s.size - p < z) :
    Calls Tryd.prog 49 #[.pointer (some ⟨b, 0, none⟩)] w fun e w' => e = .returned (.tuple #[.int .u64 0, .int .i64 0, .int .i64 3]) ∧ ∃ n, w' = w.drewN n := by
  have hF := Lib.hid (first_some b p s w h0 h hp hs)
  rw [bAt_eq] at hF
  have hlt : (s.size : Int) - (p : Int) < (z : Int) := by omega
  have hL2 := Lib.hid (fun n => Left_any b p s (w.drewN n) h0 h (by omega) hs)
  go_enter Tryd.func49, Tryd.ntmps49
  go_wp2_with (first | (go_at_call 51; refine hF.out.mono ?_; rintro e w' ⟨rfl, n, rfl⟩) | (go_at_call 11; refine (hL2.out _).mono ?_; rintro e w' ⟨rfl, n2, rfl⟩))
  go_ret3
  exact ⟨rfl, _, rfl⟩

set_option maxHeartbeats 1000000 in
theorem number_read (b p c z : Nat) (s : ByteArray) (w : World) (hL : Laid w) (h0 : w.cell? ⟨b, 0, none⟩ = some (.string s)) (h : w.cell? ⟨b, 1, none⟩ = some (.int .i64 (p : Int))) (hp : p < s.size) (hs : s.size ≤ 140737488355328)
    (hc : c < 4) (hcc : ((bAt s p : Nat) : Int) / 64 = (c : Int)) (hz : w.cell? ⟨0, c, none⟩ = some (.int .i64 (z : Int))) (hlong : z ≤ s.size - p) (hz1 : 1 ≤ z) (hz8 : z ≤ 8) :
    Calls Tryd.prog 49 #[.pointer (some ⟨b, 0, none⟩)] w fun e w' => e = .returned (numOut (nval s p (z - 1)) c z) ∧ ∃ n, w' = w.drewN n := by
  have hF := Lib.hid (first_some b p s w h0 h hp hs)
  rw [bAt_eq] at hF
  have hlt : ¬ (s.size : Int) - (p : Int) < (z : Int) := by omega
  have hL2 := Lib.hid (fun n => Left_any b p s (w.drewN n) h0 h (by omega) hs)
  have hCl := Lib.hid (fun n m => classOf_any m (w.drewN n) (hL.drewN n))
  have hbt := Lib.hid (fun k => bAt_lt s (p + 1 + k))
  have hn6 := Lib.hid (fun k hk => nval_lt6 s p k hk)
  clear hL
  go_enter Tryd.func49, Tryd.ntmps49
  go_wp2_with (first | (go_at_call 51; refine hF.out.mono ?_; rintro e w' ⟨rfl, n, rfl⟩) | (go_at_call 11; refine (hL2.out _).mono ?_; rintro e w' ⟨rfl, n2, rfl⟩))
  go_loop [2, 7] (fun t i => ∃ k : Nat, k < z ∧ i = .int .i64 ((p : Int) + 1 + (k : Int)) ∧ t = .int .u64 (nval s p k)) (fun _ i => (p + 10 - (intOf i).toNat))
  case atStart => exact ⟨0, by omega, by simp, rfl⟩
  case round =>
    obtain ⟨k, hk, rfl, rfl⟩ := hrel
    by_cases hlt : k + 1 < z
    · have hb6 := hn6.out k (by omega)
      have hj := join_byte (nval s p k) (bAt s (p + 1 + k)) hb6 (hbt.out k)
      have hbb := bAt_eq s (p + 1 + k) (by omega)
      have hlt2 : (p : Int) + 1 + (k : Int) < (p : Int) + (z : Int) := by omega
      have hsz : p + 1 + k < s.size := by omega
      have hb8 := hbt.out k
      go_wp2
      go_round
      case rel => exact ⟨k + 1, hlt, by go_num, rfl⟩
      case measure => simp [intOf]; omega
    · have hge : ¬ (p : Int) + 1 + (k : Int) < (p : Int) + (z : Int) := by omega
      obtain rfl : k = z - 1 := by omega
      by_cases hcl : cls (nval s p (z - 1)) < c
      · have hcl2 : ((cls (nval s p (z - 1)) : Nat) : Int) < (c : Int) := by omega
        generalize hV : nval s p (z - 1) = V at *
        have HV := Lib.hid hV
        clear hV
        go_wp2_with (go_at_call 45; refine (hCl.out _ V).mono ?_; rintro e w' ⟨rfl, rfl⟩)
        go_ret3
        exact ⟨by rw [HV.out, numOut, if_pos hcl]; rfl, _, rfl⟩
      · have hcl2 : ¬ ((cls (nval s p (z - 1)) : Nat) : Int) < (c : Int) := by omega
        generalize hV : nval s p (z - 1) = V at *
        have HV := Lib.hid hV
        clear hV
        go_wp2_with (go_at_call 45; refine (hCl.out _ V).mono ?_; rintro e w' ⟨rfl, rfl⟩)
        go_ret3
        exact ⟨by rw [HV.out, numOut, if_neg hcl]; rfl, _, rfl⟩
/-- The contract of 'number'. -/
theorem number_any (b p : Nat) (s : ByteArray) (w : World) (hL : Laid w) (h0 : w.cell? ⟨b, 0, none⟩ = some (.string s)) (h : w.cell? ⟨b, 1, none⟩ = some (.int .i64 (p : Int))) (hp : p ≤ s.size) (hs : s.size ≤ 140737488355328) :
    Calls Tryd.prog 49 #[.pointer (some ⟨b, 0, none⟩)] w fun e w' => e = .returned (.tuple #[.int .u64 ((numR s p).1 : Nat), .int .i64 ((numR s p).2.1 : Nat), .int .i64 ((numR s p).2.2 : Nat)]) ∧ ∃ n, w' = w.drewN n := by
  unfold numR
  by_cases h1 : s.size ≤ p
  · obtain rfl : p = s.size := by omega
    rw [if_pos h1]
    exact number_none b s w h0 h hs
  · have hc : bAt s p / 64 < 4 := by have := bAt_lt s p; omega
    have hz := hL.size_at _ hc
    have hb := szc_bd (bAt s p / 64)
    rw [if_neg h1]
    by_cases h2 : s.size - p < szc (bAt s p / 64)
    · rw [if_pos h2]
      exact number_short b p _ _ s w h0 h (by omega) hs hc (by omega) hz h2
    · rw [if_neg h2]
      refine (number_read b p _ _ s w hL h0 h (by omega) hs hc (by omega) hz (by omega) hb.1 hb.2).mono fun e w' he => ?_
      refine ⟨?_, he.2⟩
      rw [he.1, numOut]
      by_cases h3 : cls (nval s p (szc (bAt s p / 64) - 1)) < bAt s p / 64
      · rw [if_pos h3, if_pos h3]; rfl
      · rw [if_neg h3, if_neg h3]; rfl
end Go.Proofs.YtmmdkoomceikiaaDoor
