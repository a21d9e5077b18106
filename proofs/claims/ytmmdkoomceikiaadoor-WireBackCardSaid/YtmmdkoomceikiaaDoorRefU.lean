/-
  The document's own U (ploverref01.In.U) by its contract over the plain state. Condition: the text is shorter than 2^46 bytes.
-/
import Derived.Test.YtmmdkoomceikiaaDoorRef
import Derived.Test.YtmmdkoomceikiaaDoorRead5
namespace Go.Proofs.YtmmdkoomceikiaaDoor
open Go.RowKit

theorem rU_late (b : Nat) (c : Int) (w : World) (h : w.cell? ⟨b, 2, none⟩ = some (.int .i64 c)) (hc : (c == 0) = false) :
    Calls Tryd.prog 40 #[.pointer (some ⟨b, 0, none⟩)] w fun e w' => e = .returned (.int .u64 0) ∧ w = w' := by
  have hc' : (c != 0) = true := by rw [bne, hc]; rfl
  go_enter Tryd.func40, Tryd.ntmps40
  go_wp2
  go_ret
  exact ⟨rfl, rfl⟩
/-- What U's own call of fail must do, wherever it is called. -/
def FailAt (b : Nat) (w : World) (W : Int → World → World) : Prop := ∀ (c : Int) (n : Nat), Calls Tryd.prog 54 #[.pointer (some ⟨b, 0, none⟩), .int .i64 c] (w.drewN n) fun e w' => e = .returned (.tuple #[]) ∧ w' = W c (w.drewN n)
theorem rU_short (b p : Nat) (s : ByteArray) (w : World) (W : Int → World → World) (h0 : w.cell? ⟨b, 0, none⟩ = some (.string s)) (h1 : w.cell? ⟨b, 1, none⟩ = some (.int .i64 (p : Int))) (h2 : w.cell? ⟨b, 2, none⟩ = some (.int .i64 0)) (hW : FailAt b w W) (hp : s.size ≤ p) :
    Calls Tryd.prog 40 #[.pointer (some ⟨b, 0, none⟩)] w fun e w' => e = .returned (.int .u64 0) ∧ ∃ n, w' = W 3 (w.drewN n) := by
  have hF := Lib.hid (fun n => hW 3 n)
  have hge : (s.size : Int) ≤ (p : Int) := by omega
  go_enter Tryd.func40, Tryd.ntmps40
  go_wp2_with (first | (go_quiet (fail)) | (go_at_call 54; refine (hF.out _).mono ?_; rintro e w' ⟨rfl, rfl⟩))
  go_ret
  exact ⟨rfl, _, rfl⟩
theorem two_pow_szc (k : Nat) (h : k < 4) : szc k = 2 ^ k := by
  match k, h with
  | 0, _ => rfl
  | 1, _ => rfl
  | 2, _ => rfl
  | 3, _ => rfl
theorem pow_le8 (j : Nat) (h : j ≤ 3) : 2 ^ j ≤ 8 := Nat.pow_le_pow_right (by decide) h

set_option maxHeartbeats 4000000 in
theorem rU_part (b p K : Nat) (s : ByteArray) (w : World) (W : Int → World → World) (h0 : w.cell? ⟨b, 0, none⟩ = some (.string s)) (h1 : w.cell? ⟨b, 1, none⟩ = some (.int .i64 (p : Int))) (h2 : w.cell? ⟨b, 2, none⟩ = some (.int .i64 0)) (hW : FailAt b w W) (hp : p < s.size)
    (hK : K < 4) (hKK : (bAt s p : Int) / 64 = (K : Int)) (hlong : s.size - p < 2 ^ K) :
    Calls Tryd.prog 40 #[.pointer (some ⟨b, 0, none⟩)] w fun e w' => e = .returned (.int .u64 0) ∧ ∃ n, w' = W 3 (w.drewN n) := by
  have hF := Lib.hid (fun n => hW 3 n)
  have hge : ¬ (s.size : Int) ≤ (p : Int) := by omega
  have hbb := bAt_eq s p hp
  have HL := Lib.hid hlong
  clear hW hlong
  go_enter Tryd.func40, Tryd.ntmps40
  go_wp2_with (go_quiet (fail))
  go_loopw [3, 4] (fun m k wr => ∃ (j n : Nat), j ≤ K ∧ k = .int .i64 (j : Int) ∧ m = .int .i64 ((2 ^ j : Nat) : Int) ∧ wr = w.drewN n) (fun _ k _ => 8 - (intOf k).toNat)
  case atStart => exact ⟨0, _, by omega, rfl, rfl, rfl⟩
  case round =>
    obtain ⟨j, n, hj, rfl, rfl, rfl⟩ := hrel
    have hj8 := pow_le8 j (by omega)
    by_cases hlt : j < K
    · have hlt2 : (j : Int) < (K : Int) := by omega
      have e2 : 2 ^ (j + 1) = 2 * 2 ^ j := by rw [Nat.pow_succ]; omega
      generalize hz : 2 ^ j = z at *
      have HZ := Lib.hid hz
      clear hz
      go_wp2_with (go_quiet (fail))
      go_roundw
      case rel => exact ⟨j + 1, _, by omega, by first | rfl | go_num, by rw [e2]; first | rfl | go_num, rfl⟩
      case measure => simp [intOf]; omega
    · obtain rfl : j = K := by omega
      have hl := HL.out
      have hlt2 : (s.size : Int) - (p : Int) < ((2 ^ j : Nat) : Int) := by omega
      generalize 2 ^ j = z at *
      go_wp2_with (first | (go_quiet (fail)) | (go_at_call 54; refine (hF.out _).mono ?_; rintro e w' ⟨rfl, rfl⟩))
      go_ret
      exact ⟨rfl, _, rfl⟩

set_option maxHeartbeats 8000000 in
theorem rU_whole (b p K q : Nat) (s : ByteArray) (w : World) (W : Int → World → World) (h0 : w.cell? ⟨b, 0, none⟩ = some (.string s)) (h1 : w.cell? ⟨b, 1, none⟩ = some (.int .i64 (p : Int))) (h2 : w.cell? ⟨b, 2, none⟩ = some (.int .i64 0)) (hf : w.frozen? ⟨b, 1, none⟩ = false) (hW : FailAt b w W) (hp : p < s.size) (hs : s.size ≤ 70368744177664)
    (hK : K < 4) (hKK : (bAt s p : Int) / 64 = (K : Int)) (hK2 : (bAt s p : Int) % 64 = (q : Int)) (hq : nval s p 0 = q) (hlong : 2 ^ K ≤ s.size - p) :
    Calls Tryd.prog 40 #[.pointer (some ⟨b, 0, none⟩)] w fun e w' =>
      (szc (cls (nval s p (2 ^ K - 1))) ≠ 2 ^ K ∧ e = .returned (.int .u64 0) ∧ ∃ n, w' = W 5 (w.drewN n)) ∨
      (szc (cls (nval s p (2 ^ K - 1))) = 2 ^ K ∧ e = .returned (.int .u64 (nval s p (2 ^ K - 1) : Nat)) ∧ ∃ n, w' = (w.drewN n).setCell ⟨b, 1, none⟩ (.int .i64 ((p + 2 ^ K : Nat) : Int))) := by
  have hF := Lib.hid (fun n => hW 5 n)
  have hS := Lib.hid (fun M w => size_any M w)
  have hge : ¬ (s.size : Int) ≤ (p : Int) := by omega
  have hbb := bAt_eq s p hp
  have HL := Lib.hid hlong
  have hbt := Lib.hid (fun k => bAt_lt s (p + 1 + k))
  have hn6 := Lib.hid (fun k hk => nval_lt6 s p k hk)
  have hb0 := Lib.hid (bAt_lt s p)
  have HQ := Lib.hid hq
  clear hW hlong hq
  go_enter Tryd.func40, Tryd.ntmps40
  go_wp2_with (go_quiet (fail))
  go_loopw [3, 4] (fun m k wr => ∃ (j n : Nat), j ≤ K ∧ k = .int .i64 (j : Int) ∧ m = .int .i64 ((2 ^ j : Nat) : Int) ∧ wr = w.drewN n) (fun _ k _ => 8 - (intOf k).toNat)
  case atStart => exact ⟨0, _, by omega, rfl, rfl, rfl⟩
  case round =>
    obtain ⟨j, n, hj, rfl, rfl, rfl⟩ := hrel
    have hj8 := pow_le8 j (by omega)
    by_cases hlt : j < K
    · have hlt2 : (j : Int) < (K : Int) := by omega
      have e2 : 2 ^ (j + 1) = 2 * 2 ^ j := by rw [Nat.pow_succ]; omega
      generalize hz : 2 ^ j = z at *
      have HZ := Lib.hid hz
      clear hz
      go_wp2_with (go_quiet (fail))
      go_roundw
      case rel => exact ⟨j + 1, _, by omega, by first | rfl | go_num, by rw [e2]; first | rfl | go_num, rfl⟩
      case measure => simp [intOf]; omega
    · obtain rfl : j = K := by omega
      have hl := HL.out
      have hz1 : 0 < 2 ^ j := Nat.pow_pos (by decide)
      have hlt2 : ¬ (s.size : Int) - (p : Int) < ((2 ^ j : Nat) : Int) := by omega
      clear HL
      generalize hz : 2 ^ j = z at *
      have HZ := Lib.hid hz
      clear hz
      go_wp2_with (go_quiet (fail))
      go_loopw [5, 6] (fun t i wr => ∃ (k n : Nat), k < z ∧ i = .int .i64 ((k : Int) + 1) ∧ t = .int .u64 (nval s p k) ∧ wr = w.drewN n) (fun _ i _ => (10 - (intOf i).toNat))
      case atStart => exact ⟨0, _, by omega, rfl, by rw [HQ.out], rfl⟩
      case round =>
        obtain ⟨k, n2, hk, rfl, rfl, rfl⟩ := hrel
        clear hK2 hKK hbb HQ
        by_cases hlt3 : k + 1 < z
        · have hb6 := hn6.out k (by omega)
          have hbb2 := bAt_eq s (p + (k + 1)) (by omega)
          have hlt4 : (k : Int) + 1 < (z : Int) := by omega
          have hb8 := bAt_lt s (p + (k + 1))
          have hsz : p + (k + 1) < s.size := by omega
          have i0 : (0 : Int) ≤ (p : Int) + ((k : Int) + 1) := by omega
          have i1 : (p : Int) + ((k : Int) + 1) < (s.size : Int) := by omega
          have i2 : ((p : Int) + ((k : Int) + 1)).toNat = p + (k + 1) := by omega
          go_wp2
          go_quiet (fail)
          go_wp2
          go_roundw
          case rel =>
            refine ⟨k + 1, _, hlt3, by first | rfl | go_num, ?_, rfl⟩
            rw [nval, show p + 1 + k = p + (k + 1) by omega]
            first | rfl | (congr 1; omega)
          case measure => simp [intOf]; omega
        · obtain rfl : k = z - 1 := by omega
          have hlt4 : ¬ (((z - 1 : Nat) : Int) + 1) < (z : Int) := by omega
          generalize hV : nval s p (z - 1) = V at *
          have HV := Lib.hid hV
          clear hV
          by_cases hcl : szc (cls V) = z
          · have hq2 : (((szc (cls V) : Nat) : Int) != (z : Int)) = false := by simp [hcl]
            go_wp2_with (go_at_call 47; refine (hS.out V _).mono ?_; rintro e w' ⟨rfl, rfl⟩)
            go_ret
            have hv := HV.out
            have hz := HZ.out
            subst hz
            rw [hv]
            exact Or.inr ⟨hcl, rfl, _, by congr 2⟩
          · have hq2 : (((szc (cls V) : Nat) : Int) != (z : Int)) = true := by simp; omega
            go_wp2_with (first | (go_at_call 47; refine (hS.out V _).mono ?_; rintro e w' ⟨rfl, rfl⟩) | (go_at_call 54; refine (hF.out _).mono ?_; rintro e w' ⟨rfl, rfl⟩))
            go_ret
            have hv := HV.out
            have hz := HZ.out
            subst hz
            rw [hv]
            exact Or.inl ⟨hcl, rfl, _, rfl⟩
end Go.Proofs.YtmmdkoomceikiaaDoor
