/-
  The program's own behindGap, by its contract. Conditions: the listed variable marks holds all marks; the text is shorter than 2^46 bytes.
-/
import Derived.Test.YtmebcenjghagoaaGreatDoorAll
import Derived.Test.YtmebcenjghagoaaGreatDoorEnds
namespace Go.Proofs.YtmebcenjghagoaaGreatDoor
open Go.RowKit

theorem excl_B (b : Nat) (h : isB b = true) : isL b = false ∧ isD b = false ∧ isH b = false := by
  simp only [isB, Bool.or_eq_true, beq_iff_eq] at h
  rcases h with rfl | rfl | rfl <;> exact ⟨rfl, rfl, rfl⟩
theorem excl_D (b : Nat) (h : isD b = true) : isL b = false ∧ isH b = false := by
  simp only [isD, Bool.and_eq_true, decide_eq_true_eq] at h
  exact ⟨by simp [isL]; omega, by simp [isH]; omega⟩
theorem excl_H (b : Nat) (h : isH b = true) : isL b = true := by
  simp only [isH, Bool.or_eq_true, Bool.and_eq_true, decide_eq_true_eq] at h
  simp [isL]; omega
theorem ofK_all (b : Nat) : ofK 1 b = isB b ∧ ofK 4 b = isD b ∧ ofK 6 b = (isL b || isD b) ∧ ofK 8 b = (isD b || isH b) := by
  unfold ofK kindS
  by_cases h1 : isB b = true
  · obtain ⟨a, c, d⟩ := excl_B b h1
    simp [h1, a, c, d]
  by_cases h2 : isD b = true
  · obtain ⟨a, c⟩ := excl_D b h2
    simp [h1, h2, a, c]
  by_cases h3 : isH b = true
  · have a := excl_H b h3
    simp [h1, h2, h3, a]
  by_cases h4 : isL b = true
  · simp [h1, h2, h3, h4]
  by_cases h5 : isMk b = true
  · simp [h1, h2, h3, h4, h5]
  · simp [h1, h2, h3, h4, h5]
theorem gap_span (s : ByteArray) (p : Nat) : gap s p = gap s (spanS (ofK 1) s p) := by
  induction h : s.size - p generalizing p with
  | zero => rw [span_stop (ofK 1) s p (fun hh => absurd hh (by omega))]
  | succ n ih =>
    by_cases hc : p < s.size ∧ ofK 1 (bAt s p) = true
    · rw [span_step (ofK 1) s p hc.1 hc.2, ← ih (p + 1) (by omega)]
      exact gap_blank s p hc.1 (by rw [← (ofK_all (bAt s p)).1]; exact hc.2)
    · rw [span_stop (ofK 1) s p (fun hh => Bool.eq_false_iff.2 fun hf => hc ⟨hh, hf⟩)]
theorem drop_of (s : ByteArray) (p : Nat) : (s.extract p s.size).data.toList = s.data.toList.drop p := by
  simp only [ByteArray.data_extract, Array.toList_extract, List.extract]
  exact List.take_of_length_le (by simp)
theorem byte_dec (s : ByteArray) (p : Nat) (h : p < s.size) (c : Nat) (hc : c < 256) : (UInt8.ofNat c == s[p]) = (bAt s p == c) := by
  rw [← bAt_eq s p h]
  by_cases hb : s[p].toNat = c
  · have : s[p] = UInt8.ofNat c := by rw [← hb]; simp
    rw [this]
    simp [UInt8.toNat_ofNat_of_lt' hc]
  · have h2 : UInt8.ofNat c ≠ s[p] := fun e => hb (by rw [← e, UInt8.toNat_ofNat_of_lt' hc])
    rw [show (UInt8.ofNat c == s[p]) = false from by simpa using h2, show (s[p].toNat == c) = false from by simpa using hb]
/-- Two bytes stand at a place. -/
theorem two_at (s : ByteArray) (p c d : Nat) (hc : c < 256) (hd : d < 256) : Lib.hasPrefix (s.extract p s.size).data.toList [UInt8.ofNat c, UInt8.ofNat d] = (decide (p + 1 < s.size) && (bAt s p == c && bAt s (p + 1) == d)) := by
  rw [drop_of]
  by_cases h1 : p + 1 < s.size
  · rw [drop_cons s p (by omega), drop_cons s (p + 1) h1]
    simp only [Lib.hasPrefix, List.isPrefixOf, byte_dec s p (by omega) c hc, byte_dec s (p + 1) h1 d hd]
    simp [h1]
  · simp only [h1, decide_false, Bool.false_and]
    by_cases h2 : p < s.size
    · rw [drop_cons s p h2, List.drop_eq_nil_of_le (by simp; omega)]
      simp [Lib.hasPrefix, List.isPrefixOf]
    · rw [List.drop_eq_nil_of_le (by simp; omega)]
      simp [Lib.hasPrefix, List.isPrefixOf]
theorem pre_slash (s : ByteArray) (p : Nat) : Lib.hasPrefix (s.extract p s.size).data.toList (⟨#[47, 47]⟩ : ByteArray).data.toList = isC s p := two_at s p 47 47 (by omega) (by omega)
theorem pre_0x (s : ByteArray) (p : Nat) : Lib.hasPrefix (s.extract p s.size).data.toList (⟨#[48, 120]⟩ : ByteArray).data.toList = isX s p := by
  refine (two_at s p 48 120 (by omega) (by omega)).trans ?_
  unfold isX
  cases decide (p + 1 < s.size) <;> cases bAt s p == 48 <;> simp
set_option maxRecDepth 100000 in
set_option maxHeartbeats 4000000 in
theorem behindGap_any (s : ByteArray) (p0 : Nat) (w : World) (hM : MarksAt w) (hs : s.size ≤ 70368744177664) (hp : p0 ≤ s.size) :
    Calls Tryz.prog 46 #[.string s, .int .i64 (p0 : Int)] w fun e w' => e = .returned (.int .i64 (gap s p0 : Nat)) ∧ w = w' := by
  have HA := Lib.hid (fun (p : Nat) (hp : p ≤ s.size) => behindAll_1 s p w hM hs hp)
  have HP := Lib.hid (fun (p : Nat) => by have := Tryz.strings_HasPrefix (s.extract p s.size) ⟨#[47, 47]⟩ w; rw [pre_slash] at this; exact this)
  have HL := Lib.hid (fun (p : Nat) (hp : p ≤ s.size) => lineEnd_any s p hs hp w)
  clear hM
  go_enter Tryz.func46, Tryz.ntmps46
  go_wp2
  go_loop [1] (fun i => ∃ p : Nat, p ≤ s.size ∧ i = .int .i64 p ∧ Hid (gap s p = gap s p0)) (fun i => s.size - (intOf i).toNat)
  case atStart => exact ⟨p0, hp, rfl, rfl⟩
  case round =>
    obtain ⟨p, hple, rfl, HG⟩ := hrel
    have HA1 := Lib.hid (HA.out p hple)
    have hq1 := span_ge (ofK 1) s p
    have hq2 := span_le (ofK 1) s p hple
    have HQ : Hid (gap s (spanS (ofK 1) s p) = gap s p0) := by rw [Hid, ← gap_span]; exact HG.out
    have HS := Lib.hid (span_end (ofK 1) s p)
    generalize spanS (ofK 1) s p = q at *
    have HP1 := Lib.hid (HP.out q)
    have HL1 := Lib.hid (HL.out q hq2)
    clear HG HA HP HL
    cases hc : isC s q
    · have HE : Hid (gap s p0 = q) := by
        rw [Hid, ← HQ.out]
        exact gap_stop s q (fun h => ⟨by rw [← (ofK_all (bAt s q)).1]; exact HS.out h, hc⟩)
      rw [hc] at HP1
      clear hc HQ HS
      go_wp2_with (first | (go_at_call 63; refine HA1.out.mono ?_; rintro e w' ⟨rfl, rfl⟩) | (go_at_call 32; refine HP1.out.mono ?_; rintro e w' ⟨rfl, rfl⟩))
      go_ret
      exact ⟨by rw [HE.out]; rfl, rfl⟩
    · have hlt : q + 1 < s.size := by
        have h := hc
        simp only [isC, Bool.and_eq_true, decide_eq_true_eq] at h
        exact h.1
      have HQ2 : Hid (gap s (endl s q) = gap s p0) := by rw [Hid, ← gap_comment s q hc]; exact HQ.out
      have e1 := endl_ge s (q + 1)
      rw [← isC_endl s q hc] at e1
      have e2 := endl_le s q hq2
      rw [hc] at HP1
      clear hc HQ HS
      generalize endl s q = z at *
      go_wp2_with (first | (go_at_call 63; refine HA1.out.mono ?_; rintro e w' ⟨rfl, rfl⟩) | (go_at_call 32; refine HP1.out.mono ?_; rintro e w' ⟨rfl, rfl⟩) | (go_at_call 64; refine HL1.out.mono ?_; rintro e w' ⟨rfl, rfl⟩))
      go_round
      case rel => exact ⟨z, e2, rfl, HQ2⟩
      case measure => simp [intOf]; omega
end Go.Proofs.YtmebcenjghagoaaGreatDoor
