/-
  The law's own bare by its contract: of what stands between two tokens it answers true. No condition.
-/
import Derived.Test.YtmebcenjghagoaaGreatDoorLoc
import Derived.Test.YtmebcenjghagoaaGreatDoorPartsM
namespace Go.Proofs.YtmebcenjghagoaaGreatDoor
open Go.RowKit

theorem endl_cut (s : ByteArray) (q e x : Nat) (h1 : q ≤ x) (h2 : x ≤ e) (h3 : e ≤ s.size) (h4 : endl s x ≤ e) : endl (s.extract q e) (x - q) = endl s x - q := by
  have hz := size_extract_of s q e (by omega) h3
  induction hn : e - x generalizing x with
  | zero =>
    have := endl_ge s x
    rw [endl_stop (s.extract q e) _ (by omega)]
    omega
  | succ n ih =>
    have hb : bAt (s.extract q e) (x - q) = bAt s x := by rw [bAt_extract s q e _ h3 (by omega), show q + (x - q) = x from by omega]
    by_cases hc : bAt s x ≠ 10
    · have e1 := endl_step s x (by omega) hc
      rw [endl_step _ _ (by omega) (by rwa [hb]), e1, show x - q + 1 = x + 1 - q from by omega]
      exact ih (x + 1) (by omega) (by omega) (by rwa [← e1]) (by omega)
    · rw [endl_stop (s.extract q e) _ (by rw [hb]; exact fun h => hc h.2), endl_stop s x (fun h => hc h.2)]
theorem gap_cut (s : ByteArray) (q e x : Nat) (h1 : q ≤ x) (h2 : x ≤ e) (h3 : e ≤ s.size) (h4 : gap s x = e) : gap (s.extract q e) (x - q) = e - q := by
  have hz := size_extract_of s q e (by omega) h3
  induction hn : e - x using Nat.strongRecOn generalizing x with
  | _ n ih =>
    subst hn
    by_cases hx : x < e
    · have hb : bAt (s.extract q e) (x - q) = bAt s x := by rw [bAt_extract s q e _ h3 (by omega), show q + (x - q) = x from by omega]
      by_cases hbl : isB (bAt s x) = true
      · rw [gap_blank _ _ (by omega) (by rwa [hb]), show x - q + 1 = x + 1 - q from by omega]
        rw [gap_blank s x (by omega) hbl] at h4
        exact ih _ (by omega) (x + 1) (by omega) (by omega) h4 rfl
      · by_cases hc : isC s x = true
        · have hcc := hc
          simp only [isC, Bool.and_eq_true, decide_eq_true_eq, beq_iff_eq] at hcc
          have e1 := isC_endl s x hc
          have e2 : endl s (x + 1) = endl s (x + 2) := endl_step s (x + 1) (by omega) (by omega)
          have e3 := endl_ge s (x + 2)
          rw [gap_comment s x hc] at h4
          have e4 := gap_ge s (endl s x)
          have hb2 : bAt (s.extract q e) (x - q + 1) = bAt s (x + 1) := by rw [bAt_extract s q e _ h3 (by omega), show q + (x - q + 1) = x + 1 from by omega]
          have hc' : isC (s.extract q e) (x - q) = true := by
            unfold isC
            rw [hb, hb2, hcc.2.1, hcc.2.2]
            simp
            omega
          rw [gap_comment _ _ hc', endl_cut s q e x h1 h2 h3 (by omega)]
          exact ih _ (by omega) (endl s x) (by omega) (by omega) h4 rfl
        · rw [gap_stop s x (fun _ => ⟨by simpa using hbl, by simpa using hc⟩)] at h4
          omega
    · obtain rfl : x = e := by omega
      rw [gap_stop _ _ (fun h => by omega)]
theorem bare_of (s : ByteArray) (q : Nat) (h3 : gap s q ≤ s.size) : gap (s.extract q (gap s q)) 0 = (s.extract q (gap s q)).size := by
  have h := gap_cut s q (gap s q) q (Nat.le_refl _) (gap_ge s q) h3 rfl
  rw [size_extract_of s q _ (gap_ge s q) h3]
  rwa [Nat.sub_self] at h
theorem suffix_cut (u : ByteArray) (p z : Nat) (h : p + z ≤ u.size) : (u.extract p u.size).extract z (u.extract p u.size).size = u.extract (p + z) u.size := by
  have h1 := size_extract_of u p u.size (by omega) (Nat.le_refl _)
  have h2 := size_extract_of u (p + z) u.size (by omega) (Nat.le_refl _)
  have h3 := size_extract_of (u.extract p u.size) z (u.extract p u.size).size (by omega) (Nat.le_refl _)
  refine ext_bAt _ _ (by omega) fun i hi => ?_
  rw [bAt_extract (u.extract p u.size) z _ i (Nat.le_refl _) (by omega), bAt_extract u p _ _ (Nat.le_refl _) (by omega), bAt_extract u (p + z) _ i (Nat.le_refl _) (by omega), Nat.add_assoc]
/-- A rest of a text that is bare. -/
structure Rest (u v : ByteArray) (p : Nat) : Prop where
  le : p ≤ u.size
  eq : v = u.extract p u.size
  gap : gap u p = u.size
theorem Rest.cut {u v : ByteArray} {p : Nat} (h : Rest u v p) (z : Nat) (hz : p + z ≤ u.size) (hg : Go.Proofs.YtmebcenjghagoaaGreatDoor.gap u (p + z) = u.size) : Rest u (v.extract z v.size) (p + z) :=
  ⟨hz, by rw [h.eq, suffix_cut u p z hz], hg⟩
set_option maxRecDepth 100000 in
set_option maxHeartbeats 4000000 in
theorem bare_any (u : ByteArray) (h : gap u 0 = u.size) (w : World) :
    Calls Tryz.prog 14 #[.string u] w fun e w' => e = .returned (.bool true) ∧ w = w' := by
  have HP := Lib.hid (fun (v : ByteArray) => Tryz.strings_HasPrefix v ⟨#[47, 47]⟩ w)
  have HI := Lib.hid (fun (v : ByteArray) => Tryz.strings_IndexByte v 10 w)
  have H := Lib.hid h
  clear h
  go_enter Tryz.func14, Tryz.ntmps14
  go_wp2
  go_loop [0] (fun i => ∃ (v : ByteArray) (p : Nat), i = .string v ∧ Rest u v p) (fun i => match i with | .string v => v.size | _ => 0)
  case atStart => exact ⟨u, 0, rfl, Nat.zero_le _, by simp, H.out⟩
  case round =>
    obtain ⟨v, p, rfl, hr⟩ := hrel
    have hvz : v.size = u.size - p := by rw [hr.eq, size_extract_of u p u.size hr.le (Nat.le_refl _)]
    have hle := hr.le
    have HR := Lib.hid hr
    by_cases hp : p < u.size
    · have hv0 : 0 < v.size := by omega
      have hv1 : (0 : Int) < (v.size : Int) := by omega
      have hbb := bAt_eq v 0 hv0
      have hbu : bAt v 0 = bAt u p := by rw [hr.eq, bAt_extract u p u.size 0 (Nat.le_refl _) (by omega), Nat.add_zero]
      have HV := Lib.hid hvz
      by_cases hbl : isB (bAt u p) = true
      · have hg := gap_blank u p hp hbl
        rw [hr.gap] at hg
        have HC := Lib.hid (hr.cut 1 (by omega) hg.symm)
        have hs1 : (v.extract 1 v.size).size < v.size := by rw [size_extract_of v 1 v.size (by omega) (Nat.le_refl _)]; omega
        have h3 := hbl
        rw [← hbu] at h3
        simp only [isB, Bool.or_eq_true, beq_iff_eq] at h3
        clear hr hvz hbu hg hbl
        rcases h3 with h3 | h3 | h3
        all_goals
          rw [h3] at hbb
          have hi := Lib.hid (show (1 : Int).toNat = 1 from rfl)
          go_wp2
          go_round
          case rel => exact ⟨_, p + 1, rfl, HC.out⟩
          case measure => simpa using hs1
      · have hc : isC u p = true := by
          by_cases hc : isC u p = true
          · exact hc
          · have := gap_stop u p (fun _ => ⟨by simpa using hbl, by simpa using hc⟩)
            rw [hr.gap] at this
            omega
        have hx := idx_endl u p hle
        have hd := drop_of u p
        have hps := pre_slash u p
        rw [← hr.eq] at hd hps
        rw [← hd] at hx
        rw [hc] at hps
        have hg := gap_comment u p hc
        rw [hr.gap] at hg
        have e1 := isC_endl u p hc
        have e2 := endl_ge u (p + 1)
        have e3 := endl_le u p hle
        have hP2 : Calls Tryz.prog 32 #[.string v, .string ⟨#[47, 47]⟩] w fun e w' => e = .returned (.bool true) ∧ w = w' := (HP.out v).mono (by rintro e w' ⟨rfl, rfl⟩; exact ⟨by rw [hps], rfl⟩)
        have hI2 : Calls Tryz.prog 19 #[.string v, .int .u8 10] w fun e w' => e = .returned (.int .i64 (if endl u p = u.size then -1 else ((endl u p - p : Nat) : Int))) ∧ w = w' := (HI.out v).mono (by
          rintro e w' ⟨rfl, rfl⟩
          refine ⟨?_, rfl⟩
          rw [show ((10 : Int).toNat.toUInt8) = (10 : UInt8) from rfl, hx])
        have HP2 := Lib.hid hP2
        have hn1 : ((bAt v 0 : Int) == 32) = false := by rw [hbu]; simp only [isB, Bool.or_eq_true, beq_iff_eq] at hbl; simp; omega
        have hn2 : ((bAt v 0 : Int) == 9) = false := by rw [hbu]; simp only [isB, Bool.or_eq_true, beq_iff_eq] at hbl; simp; omega
        have hn3 : ((bAt v 0 : Int) == 10) = false := by rw [hbu]; simp only [isB, Bool.or_eq_true, beq_iff_eq] at hbl; simp; omega
        by_cases he : endl u p = u.size
        · rw [if_pos he] at hI2
          have HI2 := Lib.hid hI2
          clear hr hvz hbu hg hbl hc hx hd hps hP2 hI2 e1 e2 e3 he HP HI
          go_wp2_with (first | (go_at_call 32; refine HP2.out.mono ?_; rintro e w' ⟨rfl, rfl⟩) | (go_at_call 19; refine HI2.out.mono ?_; rintro e w' ⟨rfl, rfl⟩))
          go_ret
          exact ⟨rfl, rfl⟩
        · rw [if_neg he] at hI2
          obtain ⟨z, hz⟩ : ∃ z, endl u p = p + z := ⟨endl u p - p, by omega⟩
          rw [hz] at hI2 hg e1
          rw [show p + z - p = z from by omega] at hI2
          have hzz : p + z ≤ u.size := by omega
          have hz1 : 1 ≤ z := by omega
          have hzv : z ≤ v.size := by omega
          have HI2 := Lib.hid hI2
          have HC := Lib.hid (hr.cut z hzz hg.symm)
          have hs1 : (v.extract z v.size).size < v.size := by rw [size_extract_of v z v.size (by omega) (Nat.le_refl _)]; omega
          have hzi : (z : Int) ≤ (v.size : Int) := by omega
          clear hr hvz hbu hg hbl hc hx hd hps hP2 hI2 e1 e2 e3 he hz HP HI
          go_wp2_with (first | (go_at_call 32; refine HP2.out.mono ?_; rintro e w' ⟨rfl, rfl⟩) | (go_at_call 19; refine HI2.out.mono ?_; rintro e w' ⟨rfl, rfl⟩))
          go_round
          case rel => exact ⟨_, p + z, rfl, HC.out⟩
          case measure => simpa using hs1
    · have hv1 : ¬ (0 : Int) < (v.size : Int) := by omega
      clear hr hvz
      go_wp2
      go_ret
      exact ⟨rfl, rfl⟩
end Go.Proofs.YtmebcenjghagoaaGreatDoor
