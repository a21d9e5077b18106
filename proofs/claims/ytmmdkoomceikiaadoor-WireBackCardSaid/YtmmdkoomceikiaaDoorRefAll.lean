/-
  The document's own in: U, I, Many, End by their contracts over the plain state. Condition: the text is shorter than 2^46 bytes.
-/
import Derived.Test.YtmmdkoomceikiaaDoorRefIn
import Derived.Test.YtmmdkoomceikiaaDoorRefU
import Derived.Test.YtmmdkoomceikiaaDoorRefStr
namespace Go.Proofs.YtmmdkoomceikiaaDoor
open Go.RowKit

theorem cls_szc (N K : Nat) (hK : K < 4) (hN : N < 64 * 256 ^ (szc K - 1)) : (szc (cls N) ≠ szc K) ↔ cls N < K := by
  rcases cls_ways N with ⟨h, hc⟩ | ⟨h, h', hc⟩ | ⟨h, h', hc⟩ | ⟨h, hc⟩ <;> rw [hc] <;> match K, hK with
  | 0, _ => simp [szc] at hN ⊢ <;> omega
  | 1, _ => simp [szc] at hN ⊢ <;> omega
  | 2, _ => simp [szc] at hN ⊢ <;> omega
  | 3, _ => simp [szc] at hN ⊢ <;> omega
theorem rfail_at (b p : Nat) (s : ByteArray) (c a : Int) (w : World) (h : RInB w b s p c a) : FailAt b w (fun c' w' => rfailW w' b c' p) := fun c' n => rfail_any b s p c a c' (w.drewN n) (h.drewN n)

theorem rU_any (b : Nat) (s : ByteArray) (st : St) (w : World) (h : RIn w b s st) (hF : OkF st.F) (hp : st.p ≤ s.size) (hs : s.size ≤ 70368744177664) :
    Calls Tryd.prog 40 #[.pointer (some ⟨b, 0, none⟩)] w fun e w' => e = .returned (.int .u64 ((uS s st).1 : Nat)) ∧ RIn w' b s (uS s st).2 ∧ Chg b w w' := by
  obtain ⟨p, F⟩ := st
  rcases F with _ | ⟨c, a⟩
  · have h' : RInB w b s p 0 0 := h
    have hW := rfail_at b p s 0 0 w h'
    by_cases h1 : s.size ≤ p
    · have e0 : numR s p = (0, 0, 3) := by unfold numR; rw [if_pos h1]
      have e1 : uS s ⟨p, none⟩ = (0, ⟨p, some ((3 : Int), (p : Int))⟩) := by simp [uS, e0]
      rw [e1]
      refine (rU_short b p s w _ h'.c0 h'.c1 h'.c2 hW h1).mono fun e w' ⟨g1, n, g2⟩ => ?_
      subst g2
      exact ⟨g1, rfail_in (h'.drewN n) _ _, (Chg.drewN b w n).trans (rfailW_chg _ _ _ _)⟩
    · have hK : bAt s p / 64 < 4 := by have := bAt_lt s p; omega
      have hKK : (bAt s p : Int) / 64 = ((bAt s p / 64 : Nat) : Int) := by omega
      have hK2 : (bAt s p : Int) % 64 = ((bAt s p % 64 : Nat) : Int) := by omega
      have hz := two_pow_szc _ hK
      by_cases h2 : s.size - p < szc (bAt s p / 64)
      · have e0 : numR s p = (0, 0, 3) := by unfold numR; rw [if_neg h1, if_pos h2]
        have e1 : uS s ⟨p, none⟩ = (0, ⟨p, some ((3 : Int), (p : Int))⟩) := by simp [uS, e0]
        rw [e1]
        rw [hz] at h2
        refine (rU_part b p _ s w _ h'.c0 h'.c1 h'.c2 hW (by omega) hK hKK h2).mono fun e w' ⟨g1, n, g2⟩ => ?_
        subst g2
        exact ⟨g1, rfail_in (h'.drewN n) _ _, (Chg.drewN b w n).trans (rfailW_chg _ _ _ _)⟩
      · have hq := cls_szc (nval s p (szc (bAt s p / 64) - 1)) _ hK (nval_lt s p _)
        have hz0 : szc (bAt s p / 64) ≠ 0 := by rw [hz]; exact Nat.ne_of_gt (Nat.pow_pos (by decide))
        have h2' := h2
        rw [hz] at h2'
        refine (rU_whole b p _ _ s w _ h'.c0 h'.c1 h'.c2 (h'.fz 1) hW (by omega) hs hK hKK hK2 rfl (by omega)).mono fun e w' hh => ?_
        rw [← hz] at hh
        rcases hh with ⟨g0, g1, n, g2⟩ | ⟨g0, g1, n, g2⟩
        · have e0 : numR s p = (0, 0, 5) := by unfold numR; rw [if_neg h1, if_neg h2, if_pos (hq.1 g0)]
          have e1 : uS s ⟨p, none⟩ = (0, ⟨p, some ((5 : Int), (p : Int))⟩) := by simp [uS, e0]
          rw [e1]
          subst g2
          exact ⟨g1, rfail_in (h'.drewN n) _ _, (Chg.drewN b w n).trans (rfailW_chg _ _ _ _)⟩
        · have e0 : numR s p = (nval s p (szc (bAt s p / 64) - 1), szc (bAt s p / 64), 0) := by unfold numR; rw [if_neg h1, if_neg h2, if_neg (fun hx => absurd g0 (hq.2 hx))]
          have e1 : uS s ⟨p, none⟩ = (nval s p (szc (bAt s p / 64) - 1), ⟨p + szc (bAt s p / 64), none⟩) := by simp [uS, e0]
          rw [e1]
          subst g2
          exact ⟨g1, (h'.drewN n).place _, (Chg.drewN b w n).trans (Chg.setCell b 1 _ _)⟩
  · have e1 : uS s ⟨p, some (c, a)⟩ = (0, ⟨p, some (c, a)⟩) := by simp [uS]
    rw [e1]
    have h' : RInB w b s p c a := h
    refine (rU_late b c w h'.c2 (ne_beq (hF c a rfl))).mono fun e w' ⟨h1, h2⟩ => ?_
    subst h2
    exact ⟨h1, h, Chg.refl _ _⟩
theorem rI_any (b : Nat) (s : ByteArray) (st : St) (w : World) (h : RIn w b s st) (hF : OkF st.F) (hp : st.p ≤ s.size) (hs : s.size ≤ 70368744177664) :
    Calls Tryd.prog 34 #[.pointer (some ⟨b, 0, none⟩)] w fun e w' => e = .returned (.int .i64 (unzig (uS s st).1)) ∧ RIn w' b s (uS s st).2 ∧ Chg b w w' :=
  rI_of _ _ (uS_lt s st) (fun w' => RIn w' b s (uS s st).2 ∧ Chg b w w') w (rU_any b s st w h hF hp hs)
theorem rMany_any (b : Nat) (s : ByteArray) (most : Int) (st : St) (w : World) (h : RIn w b s st) (hF : OkF st.F) (hp : st.p ≤ s.size) (hs : s.size ≤ 70368744177664) (hm2 : most ≤ 9223372036854775807) :
    Calls Tryd.prog 38 #[.pointer (some ⟨b, 0, none⟩), .int .i64 most] w fun e w' => e = .returned (.int .i64 ((manyS s most st).1 : Nat)) ∧ RIn w' b s (manyS s most st).2 ∧ Chg b w w' := by
  have hU := rU_any b s st w h hF hp hs
  obtain ⟨p, F⟩ := st
  rcases F with _ | ⟨c, a⟩
  · by_cases hc : (numR s p).2.2 = 0
    · obtain ⟨_, _, _, hn⟩ := numR_ok s p hc
      have e1 : uS s ⟨p, none⟩ = ((numR s p).1, ⟨p + (numR s p).2.1, none⟩) := by simp [uS, hc]
      rw [e1] at hU
      by_cases hx : most < 0 ∨ most < ((numR s p).1 : Int)
      · have e2 : numU s p most = (0, 0, 4) := by unfold numU; rw [if_pos hc, if_pos hx]
        have e3 : manyS s most ⟨p, none⟩ = (0, ⟨p, some ((4 : Int), (p : Int))⟩) := by simp [manyS, e2]
        rw [e3]
        by_cases hneg : most < 0
        · exact rMany_neg b s p _ _ _ _ _ most w h hneg hU
        · obtain ⟨m, rfl⟩ := Int.eq_ofNat_of_zero_le (show 0 ≤ most by omega)
          exact rMany_long b s p _ _ _ _ _ m w h hn (by omega) hU
      · have e2 : numU s p most = numR s p := by unfold numU; rw [if_pos hc, if_neg hx]
        have e3 : manyS s most ⟨p, none⟩ = ((numR s p).1, ⟨p + (numR s p).2.1, none⟩) := by simp [manyS, e2, hc]
        rw [e3]
        obtain ⟨m, rfl⟩ := Int.eq_ofNat_of_zero_le (show 0 ≤ most by omega)
        exact rMany_ok b s p _ _ _ _ _ m w h hn (by omega) (by omega) hU
    · have e1 : uS s ⟨p, none⟩ = (0, ⟨p, some (((numR s p).2.2 : Int), (p : Int))⟩) := by simp [uS, hc]
      rw [e1] at hU
      have e2 : numU s p most = numR s p := by unfold numU; rw [if_neg hc]
      have e3 : manyS s most ⟨p, none⟩ = (0, ⟨p, some (((numR s p).2.2 : Int), (p : Int))⟩) := by simp [manyS, e2, hc]
      rw [e3]
      exact rMany_late b s p 0 _ _ _ _ _ most w h (by decide) (ne_beq (by simp only [fc]; omega)) hU
  · have e1 : uS s ⟨p, some (c, a)⟩ = (0, ⟨p, some (c, a)⟩) := by simp [uS]
    have e3 : manyS s most ⟨p, some (c, a)⟩ = (0, ⟨p, some (c, a)⟩) := by simp [manyS]
    rw [e1] at hU
    rw [e3]
    exact rMany_late b s p 0 _ _ _ _ _ most w h (by decide) (ne_beq (hF c a rfl)) hU
theorem rStr_any (b : Nat) (s : ByteArray) (most : Int) (st : St) (w : World) (h : RIn w b s st) (hF : OkF st.F) (hp : st.p ≤ s.size) (hs : s.size ≤ 70368744177664) (hm2 : most ≤ 9223372036854775807) :
    Calls Tryd.prog 37 #[.pointer (some ⟨b, 0, none⟩), .int .i64 most] w fun e w' => e = .returned (.string (strS s most st).1) ∧ RIn w' b s (strS s most st).2 ∧ Chg b w w' := by
  have hM := rMany_any b s most st w h hF hp hs hm2
  obtain ⟨p, F⟩ := st
  rcases F with _ | ⟨c, a⟩
  · by_cases hc : (numU s p most).2.2 = 0
    · obtain ⟨z1, _, _, z4, _⟩ := numU_ok s p most hc
      have e1 : manyS s most ⟨p, none⟩ = ((numU s p most).1, ⟨p + (numU s p most).2.1, none⟩) := by simp [manyS, hc]
      rw [e1] at hM
      by_cases hx : s.size - p - (numU s p most).2.1 < (numU s p most).1
      · have e3 : strS s most ⟨p, none⟩ = (ByteArray.empty, ⟨p, some ((3 : Int), (p : Int))⟩) := by simp [strS, hc, hx]
        rw [e3]
        exact rStr_short b s p _ _ _ _ _ most w h z1 (by omega) z4 hM
      · have e3 : strS s most ⟨p, none⟩ = (s.extract (p + (numU s p most).2.1) (p + (numU s p most).2.1 + (numU s p most).1), ⟨p + (numU s p most).2.1 + (numU s p most).1, none⟩) := by simp [strS, hc, hx]
        rw [e3]
        exact rStr_ok b s p _ _ _ _ _ most w h hs (by omega) hM
    · have e1 : manyS s most ⟨p, none⟩ = (0, ⟨p, some (((numU s p most).2.2 : Int), (p : Int))⟩) := by simp [manyS, hc]
      have e3 : strS s most ⟨p, none⟩ = (ByteArray.empty, ⟨p, some (((numU s p most).2.2 : Int), (p : Int))⟩) := by simp [strS, hc]
      rw [e1] at hM
      rw [e3]
      exact rStr_late b s p 0 _ _ _ _ _ most w h (ne_beq (by simp only [fc]; omega)) hM
  · have e1 : manyS s most ⟨p, some (c, a)⟩ = (0, ⟨p, some (c, a)⟩) := by simp [manyS]
    have e3 : strS s most ⟨p, some (c, a)⟩ = (ByteArray.empty, ⟨p, some (c, a)⟩) := by simp [strS]
    rw [e1] at hM
    rw [e3]
    exact rStr_late b s p 0 _ _ _ _ _ most w h (ne_beq (hF c a rfl)) hM
theorem rFail_any (b : Nat) (s : ByteArray) (c a : Int) (st : St) (w : World) (h : RIn w b s st) (hF : OkF st.F) :
    Calls Tryd.prog 39 #[.pointer (some ⟨b, 0, none⟩), .int .i64 c, .int .i64 a] w fun e w' => e = .returned (.tuple #[]) ∧ RIn w' b s (failS st c a) ∧ Chg b w w' := by
  obtain ⟨p, F⟩ := st
  rcases F with _ | ⟨c0, a0⟩
  · by_cases hc : c = 0
    · subst hc
      have e1 : failS ⟨p, none⟩ 0 a = ⟨p, none⟩ := by simp [failS]
      rw [e1]
      refine (rFail_ok b s p 0 a 0 w h).mono fun e w' ⟨h1, n, h2⟩ => ?_
      subst h2
      exact ⟨h1, RInB.drewN h n, Chg.drewN b w n⟩
    · have e1 : failS ⟨p, none⟩ c a = ⟨p, some (c, a)⟩ := by simp [failS, hc]
      rw [e1]
      refine (rFail_set b s p c a 0 w h (ne_beq hc)).mono fun e w' ⟨h1, n, h2⟩ => ?_
      subst h2
      exact ⟨h1, rfail_in (RInB.drewN h n) _ _, (Chg.drewN b w n).trans (rfailW_chg _ _ _ _)⟩
  · have e1 : failS ⟨p, some (c0, a0)⟩ c a = ⟨p, some (c0, a0)⟩ := by simp [failS]
    rw [e1]
    refine (rFail_late b s p c c0 a a0 w h (ne_beq (hF c0 a0 rfl))).mono fun e w' ⟨h1, n, h2⟩ => ?_
    subst h2
    exact ⟨h1, RInB.drewN h n, Chg.drewN b w n⟩
theorem rEnd_any (b : Nat) (s : ByteArray) (st : St) (w : World) (h : RIn w b s st) (hF : OkF st.F) :
    Calls Tryd.prog 15 #[.pointer (some ⟨b, 0, none⟩)] w fun e w' => e = .returned (.agg #[.int .i64 (fc (endS s st)), .int .i64 (fa (endS s st))]) ∧ Below w.heap.size w w' := by
  obtain ⟨p, F⟩ := st
  rcases F with _ | ⟨c, a⟩
  · by_cases hp : p < s.size
    · have e1 : endS s ⟨p, none⟩ = some (4, (p : Int)) := by simp [endS, hp]
      rw [e1]
      exact rEnd_left b s p 0 w h hp
    · have e1 : endS s ⟨p, none⟩ = none := by simp [endS, hp]
      rw [e1]
      exact rEnd_keep b s p 0 0 w h (Or.inr ⟨rfl, by omega⟩)
  · have e1 : endS s ⟨p, some (c, a)⟩ = some (c, a) := by simp [endS]
    rw [e1]
    exact rEnd_keep b s p c a w h (Or.inl (ne_beq (hF c a rfl)))
end Go.Proofs.YtmmdkoomceikiaaDoor
