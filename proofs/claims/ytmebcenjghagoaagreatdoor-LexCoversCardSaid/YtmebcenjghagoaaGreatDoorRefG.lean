/-
  The document's own hex, Line, between by contracts. Condition: the text is shorter than 2^46 bytes.
-/
import Derived.Test.YtmebcenjghagoaaGreatDoorRefB
import Derived.IntWalk
namespace Go.Proofs.YtmebcenjghagoaaGreatDoor
open Go.RowKit

theorem hexS_ways (c : Nat) : (48 ≤ c ∧ c ≤ 57 ∧ isD c = true ∧ hexS c = (c : Int) - 48) ∨ (97 ≤ c ∧ c ≤ 102 ∧ isD c = false ∧ hexS c = (c : Int) - 97 + 10) ∨ (65 ≤ c ∧ c ≤ 70 ∧ isD c = false ∧ hexS c = (c : Int) - 65 + 10) ∨
    ((c < 65 ∨ (70 < c ∧ c < 97) ∨ 102 < c) ∧ isD c = false ∧ hexS c = -1) := by
  rcases isD_ways c with ⟨h1, hr⟩ | ⟨h1, h2, hr⟩ | ⟨h1, hr⟩
  · refine Or.inr (Or.inr (Or.inr ⟨by omega, hr, ?_⟩))
    unfold hexS; rw [if_neg (by simp [hr]), if_neg (by omega), if_neg (by omega)]
  · refine Or.inl ⟨h1, h2, hr, ?_⟩
    unfold hexS; rw [if_pos hr]
  · by_cases h3 : 97 ≤ c ∧ c ≤ 102
    · refine Or.inr (Or.inl ⟨h3.1, h3.2, hr, ?_⟩)
      unfold hexS; rw [if_neg (by simp [hr]), if_pos h3]; omega
    · by_cases h4 : 65 ≤ c ∧ c ≤ 70
      · refine Or.inr (Or.inr (Or.inl ⟨h4.1, h4.2, hr, ?_⟩))
        unfold hexS; rw [if_neg (by simp [hr]), if_neg h3, if_pos h4]; omega
      · refine Or.inr (Or.inr (Or.inr ⟨by omega, hr, ?_⟩))
        unfold hexS; rw [if_neg (by simp [hr]), if_neg h3, if_neg h4]
set_option maxHeartbeats 1000000 in
theorem rhex_any (c : Nat) (hc : c < 256) (w : World) : Calls Tryz.prog 76 #[.int .u8 (c : Int)] w fun e w' => e = .returned (.int .i64 (hexS c)) ∧ w = w' := by
  have hD := rDigit_any c w
  rcases hexS_ways c with ⟨h1, h2, hd, hr⟩ | ⟨h1, h2, hd, hr⟩ | ⟨h1, h2, hd, hr⟩ | ⟨h1, hd, hr⟩
  · rw [hr]
    rw [hd] at hD
    have HD := Lib.hid hD
    clear hr hd hD
    go_enter Tryz.func76, Tryz.ntmps76
    go_wp2_with (go_at_call 17; refine HD.out.mono ?_; rintro e w' ⟨rfl, rfl⟩)
    go_ret
    exact ⟨rfl, rfl⟩
  · rw [hr]
    rw [hd] at hD
    have HD := Lib.hid hD
    have k1 : decide (97 ≤ (c : Int)) = true := by simp; omega
    have k2 : decide ((c : Int) ≤ 102) = true := by simp; omega
    clear hr hd hD
    go_enter Tryz.func76, Tryz.ntmps76
    go_wp2_with (go_at_call 17; refine HD.out.mono ?_; rintro e w' ⟨rfl, rfl⟩)
    go_ret
    exact ⟨rfl, rfl⟩
  · rw [hr]
    rw [hd] at hD
    have HD := Lib.hid hD
    have k1 : decide (97 ≤ (c : Int)) = false := by simp; omega
    have k2 : decide (65 ≤ (c : Int)) = true := by simp; omega
    have k3 : decide ((c : Int) ≤ 70) = true := by simp; omega
    clear hr hd hD
    go_enter Tryz.func76, Tryz.ntmps76
    go_wp2_with (go_at_call 17; refine HD.out.mono ?_; rintro e w' ⟨rfl, rfl⟩)
    go_ret
    exact ⟨rfl, rfl⟩
  · rw [hr]
    rw [hd] at hD
    have HD := Lib.hid hD
    clear hr hd hD
    rcases h1 with h1 | h1 | h1
    · have k1 : decide (97 ≤ (c : Int)) = false := by simp; omega
      have k2 : decide (65 ≤ (c : Int)) = false := by simp; omega
      go_enter Tryz.func76, Tryz.ntmps76
      go_wp2_with (go_at_call 17; refine HD.out.mono ?_; rintro e w' ⟨rfl, rfl⟩)
      go_ret
      exact ⟨rfl, rfl⟩
    · have k1 : decide (97 ≤ (c : Int)) = false := by simp; omega
      have k2 : decide (65 ≤ (c : Int)) = true := by simp; omega
      have k3 : decide ((c : Int) ≤ 70) = false := by simp; omega
      go_enter Tryz.func76, Tryz.ntmps76
      go_wp2_with (go_at_call 17; refine HD.out.mono ?_; rintro e w' ⟨rfl, rfl⟩)
      go_ret
      exact ⟨rfl, rfl⟩
    · have k1 : decide (97 ≤ (c : Int)) = true := by simp; omega
      have k2 : decide ((c : Int) ≤ 102) = false := by simp; omega
      have k3 : decide (65 ≤ (c : Int)) = true := by simp; omega
      have k4 : decide ((c : Int) ≤ 70) = false := by simp; omega
      go_enter Tryz.func76, Tryz.ntmps76
      go_wp2_with (go_at_call 17; refine HD.out.mono ?_; rintro e w' ⟨rfl, rfl⟩)
      go_ret
      exact ⟨rfl, rfl⟩

set_option maxHeartbeats 1000000 in
theorem rLine_any (s : ByteArray) (t : Int) (w : World) (hs : s.size ≤ 70368744177664) (ht : t ≤ 9223372036854775807) :
    Calls Tryz.prog 11 #[.string s, .int .i64 t] w fun e w' => e = .returned (.int .i64 (lineS s t.toNat : Nat)) ∧ w = w' := by
  go_enter Tryz.func11, Tryz.ntmps11
  go_wp2
  go_loop [5, 6] (fun n i => ∃ k : Nat, k ≤ min t.toNat s.size ∧ i = .int .i64 k ∧ n = .int .i64 ((1 + nls s 0 k : Nat) : Int)) (fun _ i => s.size - (intOf i).toNat)
  case atStart => exact ⟨0, Nat.zero_le _, rfl, by rw [nls_self]; rfl⟩
  case round =>
    obtain ⟨k, hk, rfl, rfl⟩ := hrel
    have hn := nls_le s 0 k
    by_cases hlt : k < min t.toNat s.size
    · have h1 : (k : Int) < t := by omega
      have h2 : k < s.size := by omega
      have hbb := bAt_eq s k h2
      have hsc := nls_succ s 0 k (Nat.zero_le _)
      by_cases hb : bAt s k = 10
      · rw [if_pos hb] at hsc
        have k1 : ((bAt s k : Int) == 10) = true := by simp; omega
        have HSC := Lib.hid hsc
        clear hsc hb
        go_wp2
        go_round
        case rel => exact ⟨k + 1, by omega, by go_num, by rw [HSC.out]; go_num⟩
        case measure => simp [intOf]; omega
      · rw [if_neg hb] at hsc
        have k1 : ((bAt s k : Int) == 10) = false := by simp; omega
        have HSC := Lib.hid hsc
        clear hsc hb
        go_wp2
        go_round
        case rel => exact ⟨k + 1, by omega, by go_num, by rw [HSC.out]; go_num⟩
        case measure => simp [intOf]; omega
    · obtain rfl : k = min t.toNat s.size := by omega
      have HN : Hid (min t.toNat s.size = min t.toNat s.size) := rfl
      by_cases h1 : t < s.size
      · have h2 : ¬ ((min t.toNat s.size : Nat) : Int) < t := by omega
        clear HN
        have e : lineS s t.toNat = 1 + nls s 0 (min t.toNat s.size) := rfl
        have HE := Lib.hid e
        clear e
        generalize min t.toNat s.size = m at *
        go_wp2
        go_ret
        exact ⟨by rw [HE.out]; rfl, rfl⟩
      · have h2 : ¬ ((min t.toNat s.size : Nat) : Int) < (s.size : Int) := by omega
        clear HN
        have e : lineS s t.toNat = 1 + nls s 0 (min t.toNat s.size) := rfl
        have HE := Lib.hid e
        clear e
        generalize min t.toNat s.size = m at *
        by_cases h3 : (m : Int) < t
        · go_wp2
          go_ret
          exact ⟨by rw [HE.out]; rfl, rfl⟩
        · go_wp2
          go_ret
          exact ⟨by rw [HE.out]; rfl, rfl⟩

theorem isB_ways (b : Nat) : (b = 32 ∧ isB b = true) ∨ (b = 9 ∧ isB b = true) ∨ (b = 10 ∧ isB b = true) ∨ (b ≠ 32 ∧ b ≠ 9 ∧ b ≠ 10 ∧ isB b = false) := by
  by_cases h1 : b = 32
  · exact Or.inl ⟨h1, by simp [isB, h1]⟩
  by_cases h2 : b = 9
  · exact Or.inr (Or.inl ⟨h2, by simp [isB, h2]⟩)
  by_cases h3 : b = 10
  · exact Or.inr (Or.inr (Or.inl ⟨h3, by simp [isB, h3]⟩))
  · exact Or.inr (Or.inr (Or.inr ⟨h1, h2, h3, by simp [isB, h1, h2, h3]⟩))
theorem gap_self (s : ByteArray) (p : Nat) (h : s.size ≤ p) : gap s p = p := gap_stop s p (fun h2 => by omega)
set_option maxRecDepth 100000 in
set_option maxHeartbeats 4000000 in
theorem rbetween_any (s : ByteArray) (p0 : Nat) (w : World) (hs : s.size ≤ 70368744177664) (hp : p0 ≤ s.size) :
    Calls Tryz.prog 43 #[.string s, .int .i64 (p0 : Int)] w fun e w' => e = .returned (.int .i64 (gap s p0 : Nat)) ∧ w = w' := by
  go_enter Tryz.func43, Tryz.ntmps43
  go_wp2
  go_loop [1] (fun i => ∃ p : Nat, p ≤ s.size ∧ i = .int .i64 p ∧ Hid (gap s p = gap s p0)) (fun i => s.size - (intOf i).toNat)
  case atStart => exact ⟨p0, hp, rfl, rfl⟩
  case round =>
    obtain ⟨p, hple, rfl, HG⟩ := hrel
    by_cases hlt : p < s.size
    · have hbb := bAt_eq s p hlt
      have hb8 := bAt_lt s p
      rcases isB_ways (bAt s p) with ⟨h, hib⟩ | ⟨h, hib⟩ | ⟨h, hib⟩ | ⟨n1, n2, n3, hib⟩
      · have HG2 : Hid (gap s (p + 1) = gap s p0) := by rw [← gap_blank s p hlt hib]; exact HG.out
        have k1 : ((bAt s p : Int) == 32) = true := by simp; omega
        clear h hib HG
        go_wp2
        go_round
        case rel => exact ⟨p + 1, by omega, by go_num, HG2⟩
        case measure => simp [intOf]; omega
      · have HG2 : Hid (gap s (p + 1) = gap s p0) := by rw [← gap_blank s p hlt hib]; exact HG.out
        have k1 : ((bAt s p : Int) == 32) = false := by simp; omega
        have k2 : ((bAt s p : Int) == 9) = true := by simp; omega
        clear h hib HG
        go_wp2
        go_round
        case rel => exact ⟨p + 1, by omega, by go_num, HG2⟩
        case measure => simp [intOf]; omega
      · have HG2 : Hid (gap s (p + 1) = gap s p0) := by rw [← gap_blank s p hlt hib]; exact HG.out
        have k1 : ((bAt s p : Int) == 32) = false := by simp; omega
        have k2 : ((bAt s p : Int) == 9) = false := by simp; omega
        have k3 : ((bAt s p : Int) == 10) = true := by simp; omega
        clear h hib HG
        go_wp2
        go_round
        case rel => exact ⟨p + 1, by omega, by go_num, HG2⟩
        case measure => simp [intOf]; omega
      · have k1 : ((bAt s p : Int) == 32) = false := by simp; omega
        have k2 : ((bAt s p : Int) == 9) = false := by simp; omega
        have k3 : ((bAt s p : Int) == 10) = false := by simp; omega
        by_cases hc : isC s p = true
        · have hc2 := hc
          simp only [isC, Bool.and_eq_true, decide_eq_true_eq, beq_iff_eq] at hc2
          obtain ⟨c1, c2, c3⟩ := hc2
          have k4 : ((bAt s p : Int) != 47) = false := by simp; omega
          have hbb2 := bAt_eq s (p + 1) c1
          have k5 : ((bAt s (p + 1) : Int) != 47) = false := by simp; omega
          have k6 : decide ((s.size : Int) ≤ (p : Int) + 1) = false := by simp; omega
          have HC := Lib.hid (gap_comment s p hc)
          have HE := Lib.hid (isC_endl s p hc)
          clear hc hib n1 n2 n3 c2 c3
          go_wp2
          go_loop [1] (fun i => ∃ q : Nat, p ≤ q ∧ q ≤ s.size ∧ i = .int .i64 q ∧ Hid (endl s q = endl s p)) (fun i => s.size - (intOf i).toNat)
          case atStart => exact ⟨p, Nat.le_refl _, by omega, rfl, rfl⟩
          case round =>
            obtain ⟨q, hpq, hq, rfl, HQ⟩ := hrel
            by_cases hq2 : q < s.size
            · have hbq := bAt_eq s q hq2
              by_cases hb10 : bAt s q = 10
              · have k7 : ((bAt s q : Int) != 10) = false := by simp; omega
                have HS := Lib.hid (endl_stop s q (fun h => h.2 hb10))
                have hne : p ≠ q := by
                  rintro rfl
                  have := endl_ge s (p + 1)
                  rw [← HE.out, HS.out] at this
                  omega
                clear hb10
                go_wp2
                go_round
                case rel => exact ⟨q, by omega, rfl, by rw [HC.out, ← HQ.out, HS.out] at HG; exact HG⟩
                case measure => simp [intOf]; omega
              · have k7 : ((bAt s q : Int) != 10) = true := by simp; omega
                have HS := Lib.hid (endl_step s q hq2 hb10)
                clear hb10
                go_wp2
                go_round
                case rel => exact ⟨q + 1, by omega, by omega, by go_num, by rw [Hid, ← HS.out]; exact HQ.out⟩
                case measure => simp [intOf]; omega
            · have HS := Lib.hid (endl_stop s q (fun h => hq2 h.1))
              go_wp2
              go_round
              case rel => exact ⟨q, by omega, rfl, by rw [HC.out, ← HQ.out, HS.out] at HG; exact HG⟩
              case measure => simp [intOf]; omega
        · have hcf : isC s p = false := by simpa using hc
          have HS := Lib.hid (gap_stop s p (fun _ => ⟨hib, hcf⟩))
          have e : Hid (gap s p0 = p) := by rw [Hid, ← HG.out, HS.out]
          simp only [isC, Bool.and_eq_false_iff, decide_eq_false_iff_not, beq_eq_false_iff_ne] at hcf
          clear hc hib n1 n2 n3
          by_cases c2 : bAt s p = 47
          · have k4 : ((bAt s p : Int) != 47) = false := by simp; omega
            by_cases c1 : p + 1 < s.size
            · have c3 : bAt s (p + 1) ≠ 47 := by
                rcases hcf with h | h | h
                · exact absurd c1 h
                · exact absurd c2 h
                · exact h
              have hbb2 := bAt_eq s (p + 1) c1
              have k5 : ((bAt s (p + 1) : Int) != 47) = true := by simp; omega
              have k6 : decide ((s.size : Int) ≤ (p : Int) + 1) = false := by simp; omega
              clear hcf c2 c3
              go_wp2
              go_ret
              exact ⟨by rw [e.out]; rfl, rfl⟩
            · have k6 : decide ((s.size : Int) ≤ (p : Int) + 1) = true := by simp; omega
              clear hcf c2
              go_wp2
              go_ret
              exact ⟨by rw [e.out]; rfl, rfl⟩
          · have k4 : ((bAt s p : Int) != 47) = true := by simp; omega
            clear hcf c2
            go_wp2
            go_ret
            exact ⟨by rw [e.out]; rfl, rfl⟩
    · have e : Hid (gap s p0 = p) := by rw [Hid, ← HG.out]; exact gap_self s p (by omega)
      go_wp2
      go_ret
      exact ⟨by rw [e.out]; rfl, rfl⟩
end Go.Proofs.YtmebcenjghagoaaGreatDoor
