/-
  B, T, numberUpTo, Many by their contracts over the plain state; what all readings answer of an in that is none. Condition: as in Read.
-/
import Derived.Test.YtmmdkoomceikiaaDoorRead2
namespace Go.Proofs.YtmmdkoomceikiaaDoor
open Go.RowKit

/-! ### A byte -/
theorem B_late (b : Nat) (t : TypeId) (v : Value) (w : World) (h : w.cell? ⟨b, 2, none⟩ = some (.iface t v)) :
    Calls Tryd.prog 29 #[.pointer (some ⟨b, 0, none⟩)] w fun e w' => e = .returned (.int .u8 0) ∧ w = w' := by
  have hs := Lib.hid (stopped_yes b t v w h)
  go_enter Tryd.func29, Tryd.ntmps29
  go_wp2_with (go_at_call 48; refine hs.out.mono ?_; rintro e w' ⟨rfl, rfl⟩)
  go_ret
  exact ⟨rfl, rfl⟩
theorem B_short (b : Nat) (s : ByteArray) (w : World) (h : InB w b s s.size .nilIface) (hs : s.size ≤ 140737488355328) :
    Calls Tryd.prog 29 #[.pointer (some ⟨b, 0, none⟩)] w fun e w' => e = .returned (.int .u8 0) ∧ ∃ n, w' = failW (w.drewN n) b 3 s.size := by
  have h1 := Lib.hid (stopped_no b w h.c2)
  have h2 := Lib.hid (first_none b s w h.c0 h.c1 hs)
  have h3 := Lib.hid (fun n => take_bad b s s.size 1 3 (w.drewN n) (h.drewN n) rfl)
  go_enter Tryd.func29, Tryd.ntmps29
  go_wp2_with (first | (go_at_call 48; refine h1.out.mono ?_; rintro e w' ⟨rfl, rfl⟩) | (go_at_call 51; refine h2.out.mono ?_; rintro e w' ⟨rfl, n, rfl⟩) | (go_at_call 50; refine (h3.out n).mono ?_; rintro e w' ⟨rfl, rfl⟩))
  go_ret
  exact ⟨rfl, _, rfl⟩
theorem B_ok (b p : Nat) (s : ByteArray) (w : World) (h : InB w b s p .nilIface) (hp : p < s.size) (hs : s.size ≤ 70368744177664) :
    Calls Tryd.prog 29 #[.pointer (some ⟨b, 0, none⟩)] w fun e w' => e = .returned (.int .u8 (bAt s p)) ∧ InB w' b s (p + 1) .nilIface ∧ Chg b w w' := by
  have h1 := Lib.hid (stopped_no b w h.c2)
  have h2 := first_some b p s w h.c0 h.c1 hp (by omega)
  rw [bAt_eq] at h2
  have H2 := Lib.hid h2
  have h3 := Lib.hid (fun n => take_ok b s p 1 (w.drewN n) (h.drewN n) (by omega))
  clear h2
  go_enter Tryd.func29, Tryd.ntmps29
  go_wp2_with (first | (go_at_call 48; refine h1.out.mono ?_; rintro e w' ⟨rfl, rfl⟩) | (go_at_call 51; refine H2.out.mono ?_; rintro e w' ⟨rfl, n, rfl⟩) | (go_at_call 50; refine (h3.out n).mono ?_; rintro e w' ⟨rfl, hin, hch⟩))
  go_ret
  exact ⟨rfl, hin, (Chg.drewN b w n).trans hch⟩
theorem bS_le (s : ByteArray) (st : St) (h : st.p ≤ s.size) : (bS s st).2.p ≤ s.size := by
  unfold bS
  by_cases h1 : st.F ≠ none
  · rw [if_pos h1]; exact h
  · rw [if_neg h1]
    by_cases h2 : st.p < s.size
    · rw [if_pos h2]; exact h2
    · rw [if_neg h2]; exact h
theorem B_any (b : Nat) (s : ByteArray) (st : St) (w : World) (h : InS w b s st.p st.F) (hp : st.p ≤ s.size) (hs : s.size ≤ 70368744177664) :
    Calls Tryd.prog 29 #[.pointer (some ⟨b, 0, none⟩)] w fun e w' => e = .returned (.int .u8 ((bS s st).1 : Nat)) ∧ InS w' b s (bS s st).2.p (bS s st).2.F ∧ Chg b w w' := by
  obtain ⟨f, hi, hf⟩ := h
  obtain ⟨p, F⟩ := st
  rcases F with _ | ⟨c, a⟩
  · obtain rfl : f = .nilIface := hf
    by_cases hc : p < s.size
    · have e1 : bS s ⟨p, none⟩ = (bAt s p, ⟨p + 1, none⟩) := by simp [bS, hc]
      rw [e1]
      exact (B_ok b p s w hi hc hs).mono fun e w' ⟨h1, h2, h3⟩ => ⟨h1, ⟨_, h2, rfl⟩, h3⟩
    · have hpe : p = s.size := by simp only at hp; omega
      subst hpe
      have e1 : bS s ⟨s.size, none⟩ = (0, ⟨s.size, some ((3 : Int), ((s.size : Nat) : Int))⟩) := by simp [bS]
      rw [e1]
      refine (B_short b s w hi (by omega)).mono fun e w' ⟨h1, n, h3⟩ => ?_
      subst h3
      exact ⟨h1, failW_in (hi.drewN n) _ _, (Chg.drewN b w n).trans (failW_chg _ _ _ _)⟩
  · have e1 : bS s ⟨p, some (c, a)⟩ = (0, ⟨p, some (c, a)⟩) := by simp [bS]
    rw [e1]
    obtain ⟨fb, rfl, hb⟩ := hf
    refine (B_late b _ _ w hi.c2).mono fun e w' ⟨h1, h2⟩ => ?_
    subst h2
    exact ⟨h1, ⟨_, hi, fb, rfl, hb⟩, Chg.refl _ _⟩

/-! ### A truth -/
theorem T_late (b : Nat) (t : TypeId) (v : Value) (w : World) (h : w.cell? ⟨b, 2, none⟩ = some (.iface t v)) :
    Calls Tryd.prog 30 #[.pointer (some ⟨b, 0, none⟩)] w fun e w' => e = .returned (.bool false) ∧ w = w' := by
  have hs := Lib.hid (stopped_yes b t v w h)
  go_enter Tryd.func30, Tryd.ntmps30
  go_wp2_with (go_at_call 48; refine hs.out.mono ?_; rintro e w' ⟨rfl, rfl⟩)
  go_ret
  exact ⟨rfl, rfl⟩
theorem T_short (b : Nat) (s : ByteArray) (w : World) (h : InB w b s s.size .nilIface) (hs : s.size ≤ 140737488355328) :
    Calls Tryd.prog 30 #[.pointer (some ⟨b, 0, none⟩)] w fun e w' => e = .returned (.bool false) ∧ ∃ n, w' = failW (w.drewN n) b 3 s.size := by
  have h1 := Lib.hid (stopped_no b w h.c2)
  have h2 := Lib.hid (first_none b s w h.c0 h.c1 hs)
  have h3 := Lib.hid (fun n => take_bad b s s.size 1 3 (w.drewN n) (h.drewN n) rfl)
  go_enter Tryd.func30, Tryd.ntmps30
  go_wp2_with (first | (go_at_call 48; refine h1.out.mono ?_; rintro e w' ⟨rfl, rfl⟩) | (go_at_call 51; refine h2.out.mono ?_; rintro e w' ⟨rfl, n, rfl⟩) | (go_at_call 50; refine (h3.out n).mono ?_; rintro e w' ⟨rfl, rfl⟩))
  go_ret
  exact ⟨rfl, _, rfl⟩
theorem T_form (b p : Nat) (s : ByteArray) (w : World) (h : InB w b s p .nilIface) (hp : p < s.size) (hs : s.size ≤ 70368744177664) (hx : 1 < bAt s p) :
    Calls Tryd.prog 30 #[.pointer (some ⟨b, 0, none⟩)] w fun e w' => e = .returned (.bool false) ∧ ∃ n, w' = failW (w.drewN n) b 5 p := by
  have h1 := Lib.hid (stopped_no b w h.c2)
  have h2 := first_some b p s w h.c0 h.c1 hp (by omega)
  rw [bAt_eq] at h2
  have H2 := Lib.hid h2
  have h3 := Lib.hid (fun n => take_bad b s p 1 5 (w.drewN n) (h.drewN n) rfl)
  clear h2
  have hx2 : (1 : Int) < ((bAt s p : Nat) : Int) := by omega
  go_enter Tryd.func30, Tryd.ntmps30
  go_wp2_with (first | (go_at_call 48; refine h1.out.mono ?_; rintro e w' ⟨rfl, rfl⟩) | (go_at_call 51; refine H2.out.mono ?_; rintro e w' ⟨rfl, n, rfl⟩) | (go_at_call 50; refine (h3.out n).mono ?_; rintro e w' ⟨rfl, rfl⟩))
  go_ret
  exact ⟨rfl, _, rfl⟩
theorem T_ok (b p : Nat) (s : ByteArray) (w : World) (h : InB w b s p .nilIface) (hp : p < s.size) (hs : s.size ≤ 70368744177664) (x : Bool) (hx : bAt s p = if x then 1 else 0) :
    Calls Tryd.prog 30 #[.pointer (some ⟨b, 0, none⟩)] w fun e w' => e = .returned (.bool x) ∧ InB w' b s (p + 1) .nilIface ∧ Chg b w w' := by
  have h1 := Lib.hid (stopped_no b w h.c2)
  have h2 := first_some b p s w h.c0 h.c1 hp (by omega)
  rw [bAt_eq, hx] at h2
  have H2 := Lib.hid h2
  have h3 := Lib.hid (fun n => take_ok b s p 1 (w.drewN n) (h.drewN n) (by omega))
  clear h2 hx
  cases x
  · go_enter Tryd.func30, Tryd.ntmps30
    go_wp2_with (first | (go_at_call 48; refine h1.out.mono ?_; rintro e w' ⟨rfl, rfl⟩) | (go_at_call 51; refine H2.out.mono ?_; rintro e w' ⟨rfl, n, rfl⟩) | (go_at_call 50; refine (h3.out n).mono ?_; rintro e w' ⟨rfl, hin, hch⟩))
    go_ret
    exact ⟨rfl, hin, (Chg.drewN b w n).trans hch⟩
  · go_enter Tryd.func30, Tryd.ntmps30
    go_wp2_with (first | (go_at_call 48; refine h1.out.mono ?_; rintro e w' ⟨rfl, rfl⟩) | (go_at_call 51; refine H2.out.mono ?_; rintro e w' ⟨rfl, n, rfl⟩) | (go_at_call 50; refine (h3.out n).mono ?_; rintro e w' ⟨rfl, hin, hch⟩))
    go_ret
    exact ⟨rfl, hin, (Chg.drewN b w n).trans hch⟩
theorem tS_le (s : ByteArray) (st : St) (h : st.p ≤ s.size) : (tS s st).2.p ≤ s.size := by
  unfold tS
  by_cases h1 : st.F ≠ none
  · rw [if_pos h1]; exact h
  · rw [if_neg h1]
    by_cases h2 : st.p < s.size
    · rw [if_pos h2]
      by_cases h3 : 1 < bAt s st.p
      · rw [if_pos h3]; exact h
      · rw [if_neg h3]; exact h2
    · rw [if_neg h2]; exact h
theorem T_any (b : Nat) (s : ByteArray) (st : St) (w : World) (h : InS w b s st.p st.F) (hp : st.p ≤ s.size) (hs : s.size ≤ 70368744177664) :
    Calls Tryd.prog 30 #[.pointer (some ⟨b, 0, none⟩)] w fun e w' => e = .returned (.bool (tS s st).1) ∧ InS w' b s (tS s st).2.p (tS s st).2.F ∧ Chg b w w' := by
  obtain ⟨f, hi, hf⟩ := h
  obtain ⟨p, F⟩ := st
  rcases F with _ | ⟨c, a⟩
  · obtain rfl : f = .nilIface := hf
    by_cases hc : p < s.size
    · by_cases hx : 1 < bAt s p
      · have e1 : tS s ⟨p, none⟩ = (false, ⟨p, some ((5 : Int), ((p : Nat) : Int))⟩) := by simp [tS, hc, hx]
        rw [e1]
        refine (T_form b p s w hi hc hs hx).mono fun e w' ⟨h1, n, h3⟩ => ?_
        subst h3
        exact ⟨h1, failW_in (hi.drewN n) _ _, (Chg.drewN b w n).trans (failW_chg _ _ _ _)⟩
      · have e1 : tS s ⟨p, none⟩ = (bAt s p == 1, ⟨p + 1, none⟩) := by simp [tS, hc, hx]
        rw [e1]
        have h01 : bAt s p = if (bAt s p == 1) = true then 1 else 0 := by
          by_cases h1 : bAt s p = 1
          · simp [h1]
          · have : bAt s p = 0 := by omega
            simp [this]
        exact (T_ok b p s w hi hc hs (bAt s p == 1) h01).mono fun e w' ⟨h1, h2, h3⟩ => ⟨h1, ⟨_, h2, rfl⟩, h3⟩
    · have hpe : p = s.size := by simp only at hp; omega
      subst hpe
      have e1 : tS s ⟨s.size, none⟩ = (false, ⟨s.size, some ((3 : Int), ((s.size : Nat) : Int))⟩) := by simp [tS]
      rw [e1]
      refine (T_short b s w hi (by omega)).mono fun e w' ⟨h1, n, h3⟩ => ?_
      subst h3
      exact ⟨h1, failW_in (hi.drewN n) _ _, (Chg.drewN b w n).trans (failW_chg _ _ _ _)⟩
  · have e1 : tS s ⟨p, some (c, a)⟩ = (false, ⟨p, some (c, a)⟩) := by simp [tS]
    rw [e1]
    obtain ⟨fb, rfl, hb⟩ := hf
    refine (T_late b _ _ w hi.c2).mono fun e w' ⟨h1, h2⟩ => ?_
    subst h2
    exact ⟨h1, ⟨_, hi, fb, rfl, hb⟩, Chg.refl _ _⟩
end Go.Proofs.YtmmdkoomceikiaaDoor
