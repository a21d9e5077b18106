/-
  The document's own number by its contract: the value of digits, and the place behind them. Condition: the text is shorter than 2^46 bytes.
-/
import Derived.Test.YtmebcenjghagoaaGreatDoorRefG
namespace Go.Proofs.YtmebcenjghagoaaGreatDoor
open Go.RowKit

def capS (x : Int) : Int := if 1099511627776 < x then 1099511627776 else x
theorem capS_bd (x : Int) (h : 0 ≤ x) : 0 ≤ capS x ∧ capS x ≤ 1099511627776 := by unfold capS; split <;> omega
/-- The value of the digits to a base from p on, behind what n is already, and the place behind them; values above 2^40 stay there. -/
def numS (s : ByteArray) (base : Int) (p : Nat) (n : Int) : Int × Nat :=
  if p < s.size ∧ 0 ≤ hexS (bAt s p) ∧ hexS (bAt s p) < base then numS s base (p + 1) (capS (n * base + hexS (bAt s p))) else (n, p)
termination_by s.size - p
theorem numS_step (s : ByteArray) (base : Int) (p : Nat) (n : Int) (h : p < s.size) (hd : 0 ≤ hexS (bAt s p) ∧ hexS (bAt s p) < base) : numS s base p n = numS s base (p + 1) (capS (n * base + hexS (bAt s p))) := by
  rw [numS, if_pos ⟨h, hd⟩]
theorem numS_stop (s : ByteArray) (base : Int) (p : Nat) (n : Int) (h : p < s.size → ¬ (0 ≤ hexS (bAt s p) ∧ hexS (bAt s p) < base)) : numS s base p n = (n, p) := by
  rw [numS, if_neg (fun h2 => h h2.1 h2.2)]
theorem hexS_bd (c : Nat) : -1 ≤ hexS c ∧ hexS c ≤ 15 := by
  rcases hexS_ways c with ⟨h1, h2, _, hr⟩ | ⟨h1, h2, _, hr⟩ | ⟨h1, h2, _, hr⟩ | ⟨_, _, hr⟩ <;> rw [hr] <;> omega

set_option maxRecDepth 100000 in
set_option maxHeartbeats 2000000 in
theorem rnumber_10 (s : ByteArray) (p0 : Nat) (w : World) (hs : s.size ≤ 70368744177664) (hp : p0 ≤ s.size + 2) :
    Calls Tryz.prog 61 #[.string s, .int .i64 (p0 : Int), .int .i64 10] w fun e w' => e = .returned (.tuple #[.int .i64 (numS s 10 p0 0).1, .int .i64 ((numS s 10 p0 0).2 : Nat)]) ∧ w = w' := by
  have HX := Lib.hid (fun c hc => rhex_any c hc w)
  go_enter Tryz.func61, Tryz.ntmps61
  go_wp2
  go_loop [1, 8] (fun i m => ∃ (p : Nat) (n : Int), p ≤ s.size + 2 ∧ 0 ≤ n ∧ n ≤ 1099511627776 ∧ i = .int .i64 p ∧ m = .int .i64 n ∧ Hid (numS s 10 p n = numS s 10 p0 0)) (fun i _ => s.size + 2 - (intOf i).toNat)
  case atStart => exact ⟨p0, 0, hp, by omega, by omega, rfl, rfl, rfl⟩
  case round =>
    obtain ⟨p, n, hple, hn0, hn1, rfl, rfl, HG⟩ := hrel
    by_cases hlt : p < s.size
    · have hbb := bAt_eq s p hlt
      have hb8 := bAt_lt s p
      have HD := Lib.hid (HX.out (bAt s p) hb8)
      have hbd := hexS_bd (bAt s p)
      by_cases hd : 0 ≤ hexS (bAt s p) ∧ hexS (bAt s p) < 10
      · have HG2 : Hid (numS s 10 (p + 1) (capS (n * 10 + hexS (bAt s p))) = numS s 10 p0 0) := by rw [Hid, ← numS_step s 10 p n hlt hd]; exact HG.out
        generalize hexS (bAt s p) = d at *
        have k1 : decide (d < 0) = false := by simp; omega
        have k2 : decide (10 ≤ d) = false := by simp; omega
        clear HG
        go_wp2_with (go_at_call 76; refine HD.out.mono ?_; rintro e w' ⟨rfl, rfl⟩)
        go_round
        case rel => exact ⟨p + 1, capS (n * 10 + d), by omega, (capS_bd _ (by omega)).1, (capS_bd _ (by omega)).2, by go_num, rfl, HG2⟩
        case measure => simp [intOf]; omega
      · have e := numS_stop s 10 p n (fun _ => hd)
        have HE : Hid (numS s 10 p0 0 = (n, p)) := by rw [Hid, ← HG.out, e]
        generalize hexS (bAt s p) = d at *
        clear HG e
        by_cases h0 : d < 0
        · have k1 : decide (d < 0) = true := by simp; omega
          go_wp2_with (go_at_call 76; refine HD.out.mono ?_; rintro e w' ⟨rfl, rfl⟩)
          go_ret2
          exact ⟨by rw [HE.out]; rfl, rfl⟩
        · have k1 : decide (d < 0) = false := by simp; omega
          have k2 : decide (10 ≤ d) = true := by simp; omega
          go_wp2_with (go_at_call 76; refine HD.out.mono ?_; rintro e w' ⟨rfl, rfl⟩)
          go_ret2
          exact ⟨by rw [HE.out]; rfl, rfl⟩
    · have e := numS_stop s 10 p n (fun h => absurd h hlt)
      have HE : Hid (numS s 10 p0 0 = (n, p)) := by rw [Hid, ← HG.out, e]
      clear HG e
      go_wp2
      go_ret2
      exact ⟨by rw [HE.out]; rfl, rfl⟩

set_option maxRecDepth 100000 in
set_option maxHeartbeats 2000000 in
theorem rnumber_16 (s : ByteArray) (p0 : Nat) (w : World) (hs : s.size ≤ 70368744177664) (hp : p0 ≤ s.size + 2) :
    Calls Tryz.prog 61 #[.string s, .int .i64 (p0 : Int), .int .i64 16] w fun e w' => e = .returned (.tuple #[.int .i64 (numS s 16 p0 0).1, .int .i64 ((numS s 16 p0 0).2 : Nat)]) ∧ w = w' := by
  have HX := Lib.hid (fun c hc => rhex_any c hc w)
  go_enter Tryz.func61, Tryz.ntmps61
  go_wp2
  go_loop [1, 8] (fun i m => ∃ (p : Nat) (n : Int), p ≤ s.size + 2 ∧ 0 ≤ n ∧ n ≤ 1099511627776 ∧ i = .int .i64 p ∧ m = .int .i64 n ∧ Hid (numS s 16 p n = numS s 16 p0 0)) (fun i _ => s.size + 2 - (intOf i).toNat)
  case atStart => exact ⟨p0, 0, hp, by omega, by omega, rfl, rfl, rfl⟩
  case round =>
    obtain ⟨p, n, hple, hn0, hn1, rfl, rfl, HG⟩ := hrel
    by_cases hlt : p < s.size
    · have hbb := bAt_eq s p hlt
      have hb8 := bAt_lt s p
      have HD := Lib.hid (HX.out (bAt s p) hb8)
      have hbd := hexS_bd (bAt s p)
      by_cases hd : 0 ≤ hexS (bAt s p) ∧ hexS (bAt s p) < 16
      · have HG2 : Hid (numS s 16 (p + 1) (capS (n * 16 + hexS (bAt s p))) = numS s 16 p0 0) := by rw [Hid, ← numS_step s 16 p n hlt hd]; exact HG.out
        generalize hexS (bAt s p) = d at *
        have k1 : decide (d < 0) = false := by simp; omega
        have k2 : decide (16 ≤ d) = false := by simp; omega
        clear HG
        go_wp2_with (go_at_call 76; refine HD.out.mono ?_; rintro e w' ⟨rfl, rfl⟩)
        go_round
        case rel => exact ⟨p + 1, capS (n * 16 + d), by omega, (capS_bd _ (by omega)).1, (capS_bd _ (by omega)).2, by go_num, rfl, HG2⟩
        case measure => simp [intOf]; omega
      · have e := numS_stop s 16 p n (fun _ => hd)
        have HE : Hid (numS s 16 p0 0 = (n, p)) := by rw [Hid, ← HG.out, e]
        generalize hexS (bAt s p) = d at *
        clear HG e
        by_cases h0 : d < 0
        · have k1 : decide (d < 0) = true := by simp; omega
          go_wp2_with (go_at_call 76; refine HD.out.mono ?_; rintro e w' ⟨rfl, rfl⟩)
          go_ret2
          exact ⟨by rw [HE.out]; rfl, rfl⟩
        · have k1 : decide (d < 0) = false := by simp; omega
          have k2 : decide (16 ≤ d) = true := by simp; omega
          go_wp2_with (go_at_call 76; refine HD.out.mono ?_; rintro e w' ⟨rfl, rfl⟩)
          go_ret2
          exact ⟨by rw [HE.out]; rfl, rfl⟩
    · have e := numS_stop s 16 p n (fun h => absurd h hlt)
      have HE : Hid (numS s 16 p0 0 = (n, p)) := by rw [Hid, ← HG.out, e]
      clear HG e
      go_wp2
      go_ret2
      exact ⟨by rw [HE.out]; rfl, rfl⟩
end Go.Proofs.YtmebcenjghagoaaGreatDoor
