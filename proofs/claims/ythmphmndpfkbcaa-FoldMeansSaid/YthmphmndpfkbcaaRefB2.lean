/-
  The document's own and, or, exclusive or: the walk.
-/
import Derived.Test.YthmphmndpfkbcaaRefB
import Derived.Test.YthmphmndpfkbcaaIsNum
namespace Go.Proofs.Ythmphmndpfkbcaa
open Go.RowKit
set_option linter.unusedVariables false
/-- All that the world turned by is how much was drawn. -/
def Drawn (w w' : World) : Prop := ∃ n, w' = w.drewN n
theorem Drawn.refl (w : World) : Drawn w w := ⟨0, rfl⟩
theorem Drawn.more {w w' : World} (h : Drawn w w') (n : Nat) : Drawn w (w'.drewN n) := by
  obtain ⟨m, rfl⟩ := h
  exact ⟨m + n, World.drewN_drewN w m n⟩
theorem Drawn.trans {w w' w'' : World} (h : Drawn w w') (h2 : Drawn w' w'') : Drawn w w'' := by
  obtain ⟨m, rfl⟩ := h2
  exact h.more m
theorem Drawn.below {w w' : World} (h : Drawn w w') : Below w.heap.size w w' := by
  obtain ⟨m, rfl⟩ := h
  exact Below.drewN' (Below.refl _ _) m
theorem two_32 (w : World) : Calls Try.prog 37 #[.int .i64 32] w fun e w' => e = .returned (.int .i64 4294967296) ∧ w' = w := refTwo_any 32 w (by decide)
theorem two_p (k : Nat) (p : Int) (h : p = 2 ^ k) (hk : k ≤ 32) (w : World) : Calls Try.prog 37 #[.int .i64 k] w fun e w' => e = .returned (.int .i64 p) ∧ w' = w := h ▸ refTwo_any k w hk
set_option maxRecDepth 100000 in
set_option maxHeartbeats 800000 in
theorem refBitwise_any (op a b : Int) (w : World) (hop : op = 22 ∨ op = 23 ∨ op = 24) (ha : -2147483648 ≤ a) (ha2 : a ≤ 2147483647) (hb : -2147483648 ≤ b) (hb2 : b ≤ 2147483647) :
    Calls Try.prog 39 #[.int .i64 op, .int .i64 a, .int .i64 b] w fun e w' => e = .returned (.int .i64 (opN op (low32 a) (low32 b))) ∧ Drawn w w' := by
  have ta := tmod_lt2 a 4294967296 (by decide)
  have tb := tmod_lt2 b 4294967296 (by decide)
  have la := low32_lt a
  have lb := low32_lt b
  have ua := low32_up a
  have ub := low32_up b
  have HZ := Lib.hid (opN_lt op _ _ la lb)
  obtain ⟨x, hx⟩ : ∃ x, low32 a = x := ⟨_, rfl⟩
  obtain ⟨y, hy⟩ : ∃ y, low32 b = y := ⟨_, rfl⟩
  rw [hx] at la ua HZ ⊢
  rw [hy] at lb ub HZ ⊢
  clear hx hy
  obtain ⟨ra, hra⟩ : ∃ r, a.tmod 4294967296 = r := ⟨_, rfl⟩
  obtain ⟨rb, hrb⟩ : ∃ r, b.tmod 4294967296 = r := ⟨_, rfl⟩
  rw [hra] at ta ua
  rw [hrb] at tb ub
  obtain ⟨ta1, ta2⟩ := ta
  obtain ⟨tb1, tb2⟩ := tb
  go_enter Try.func39, Try.ntmps39
  go_wp2
  go_loopw [7, 8] (fun v iv wr => ∃ (k : Nat) (p : Int) (o : Nat), k ≤ 32 ∧ iv = .int .i64 k ∧ v = .int .i64 o ∧ Drawn w wr ∧ Hid (p = 2 ^ k) ∧ Hid (o = opN op x y % 2 ^ k) ∧ 1 ≤ p ∧ p ≤ 4294967296 ∧ (o : Int) < p) (fun _ iv _ => 32 - (intOf iv).toNat)
  case atStart => exact ⟨0, 1, 0, by omega, rfl, rfl, Drawn.refl _, rfl, by simp [Hid, Nat.mod_one], by omega, by omega, by omega⟩
  case round =>
    obtain ⟨k, p, o, hk, rfl, rfl, hbr, HP, HO, hp1, hp2, ho⟩ := hrel
    have HBR := Lib.hid hbr
    clear hbr
    by_cases hlt : k < 32
    · have hpz : (p == 0) = false := by
        have : p ≠ 0 := by omega
        simpa using this
      obtain ⟨dx, mx⟩ := bit_i x k p HP.out
      obtain ⟨dy, my⟩ := bit_i y k p HP.out
      have HS := Lib.hid (opN_bit op k x y)
      have hp3 : p ≤ 2147483648 := by
        have h5 := pow_le32 (k + 1) (by omega)
        rw [pow_next, ← HP.out] at h5
        omega
      have qx : x / 2 ^ k ≤ x := Nat.div_le_self _ _
      have qy : y / 2 ^ k ≤ y := Nat.div_le_self _ _
      generalize x / 2 ^ k = X at *
      generalize y / 2 ^ k = Y at *
      have bx : X % 2 = 0 ∨ X % 2 = 1 := by omega
      have by_ : Y % 2 = 0 ∨ Y % 2 = 1 := by omega
      generalize X % 2 = BX at *
      generalize Y % 2 = BY at *
      go_wp2
      go_quiet ((go_at_call 37; first | with_reducible exact Calls.quiet_of_same (two_32 _) | with_reducible exact Calls.quiet_of_same (two_p k p HP.out hk _)))
      have HN : Hid (∀ v : Nat, bitN op BX BY = v → (o + p * v : Int) = (opN op x y % 2 ^ (k + 1) : Nat) ∧ (v ≤ 1 → (o + p * v : Int) < 2 * p)) := fun v hv => by
        have h1 := mod_next (opN op x y) k
        have h2 : ((2 ^ k : Nat) : Int) = p := by rw [HP.out]; simp
        rw [h1, HS.out, hv, ← HO.out]
        refine ⟨by push_cast [← h2]; rfl, fun hv1 => ?_⟩
        rcases (by omega : v = 0 ∨ v = 1) with rfl | rfl
        · omega
        · omega
      rcases bx with rfl | rfl <;> rcases by_ with rfl | rfl <;> rcases hop with rfl | rfl | rfl
      all_goals
        go_wp2_with (go_at_call 37; with_reducible refine (two_p k p HP.out hk _).mono ?_; rintro e w' ⟨rfl, rfl⟩)
        go_roundw
        case rel =>
          obtain ⟨h1, h2⟩ := HN.out _ rfl
          have h3 := h2 (by decide)
          refine ⟨k + 1, 2 * p, opN _ x y % 2 ^ (k + 1), by omega, by go_num, ?_, (by first | exact HBR.out | exact HBR.out.more _), (show 2 * p = 2 ^ (k + 1) by rw [pow_next, ← HP.out]), rfl, by omega, by omega, ?_⟩
          · rw [← h1]
            simp [bitN]
          · rw [← h1]
            exact h3
        case measure =>
          simp [intOf]
          omega
    · obtain rfl : k = 32 := by omega
      go_wp2
      go_ret
      refine ⟨ret_i64 ?_, HBR.out⟩
      rw [HO.out, Nat.mod_eq_of_lt HZ.out]
end Go.Proofs.Ythmphmndpfkbcaa
