/-
  Many, S, I by their contracts over the plain state; what all calls answer of an in that is none. Condition: as in Read.
-/
import Derived.Test.YtmmdkoomceikiaaDoorRead4
import Derived.Deep.RegionHeld3
namespace Go.Proofs.YtmmdkoomceikiaaDoor
open Go.RowKit

theorem numU_ok (s : ByteArray) (p : Nat) (most : Int) (h : (numU s p most).2.2 = 0) : p + (numU s p most).2.1 ≤ s.size ∧ 1 ≤ (numU s p most).2.1 ∧ (numU s p most).2.1 ≤ 8 ∧ (numU s p most).1 < 4611686018427387904 ∧ numU s p most = numR s p := by
  unfold numU at h ⊢
  by_cases hc : (numR s p).2.2 = 0
  · rw [if_pos hc] at h ⊢
    by_cases ht : most < 0 ∨ most < ((numR s p).1 : Int)
    · rw [if_pos ht] at h; simp at h
    · rw [if_neg ht]
      have := numR_ok s p hc
      exact ⟨this.1, this.2.1, this.2.2.1, this.2.2.2, rfl⟩
  · rw [if_neg hc] at h
    exact absurd h hc

/-! ### Many -/
theorem Many_late (b : Nat) (t : TypeId) (v : Value) (most : Int) (w : World) (h : w.cell? ⟨b, 2, none⟩ = some (.iface t v)) :
    Calls Tryd.prog 32 #[.pointer (some ⟨b, 0, none⟩), .int .i64 most] w fun e w' => e = .returned (.int .i64 0) ∧ w = w' := by
  have hs := Lib.hid (stopped_yes b t v w h)
  go_enter Tryd.func32, Tryd.ntmps32
  go_wp2_with (go_at_call 48; refine hs.out.mono ?_; rintro e w' ⟨rfl, rfl⟩)
  go_ret
  exact ⟨rfl, rfl⟩
set_option maxHeartbeats 1000000 in
theorem Many_bad (b p : Nat) (s : ByteArray) (most : Int) (w : World) (hL : Laid w) (h : InB w b s p .nilIface) (hp : p ≤ s.size) (hs : s.size ≤ 140737488355328) (hm : -9223372036854775808 ≤ most) (hm2 : most ≤ 9223372036854775807) (hc : (numU s p most).2.2 ≠ 0) :
    Calls Tryd.prog 32 #[.pointer (some ⟨b, 0, none⟩), .int .i64 most] w fun e w' => e = .returned (.int .i64 0) ∧ ∃ n, w' = failW (w.drewN n) b (numU s p most).2.2 p := by
  have h1 := Lib.hid (stopped_no b w h.c2)
  have h2 := numberUpTo_any b p s most w hL h.c0 h.c1 hp hs hm hm2
  unfold numT at h2
  have H2 := Lib.hid h2
  clear h2
  generalize numU s p most = R at *
  have h3 := Lib.hid (fun n => take_bad b s p R.2.1 R.2.2 (w.drewN n) (h.drewN n) (by simpa using hc))
  clear hL hc hm hm2
  go_enter Tryd.func32, Tryd.ntmps32
  go_wp2_with (first | (go_at_call 48; refine h1.out.mono ?_; rintro e w' ⟨rfl, rfl⟩) | (go_at_call 52; refine H2.out.mono ?_; rintro e w' ⟨rfl, n, rfl⟩) | (go_at_call 50; refine (h3.out n).mono ?_; rintro e w' ⟨rfl, rfl⟩))
  go_ret
  exact ⟨rfl, _, rfl⟩
set_option maxHeartbeats 1000000 in
theorem Many_ok (b p : Nat) (s : ByteArray) (most : Int) (w : World) (hL : Laid w) (h : InB w b s p .nilIface) (hp : p ≤ s.size) (hs : s.size ≤ 70368744177664) (hm : -9223372036854775808 ≤ most) (hm2 : most ≤ 9223372036854775807) (hc : (numU s p most).2.2 = 0) :
    Calls Tryd.prog 32 #[.pointer (some ⟨b, 0, none⟩), .int .i64 most] w fun e w' => e = .returned (.int .i64 (numU s p most).1) ∧ InB w' b s (p + (numU s p most).2.1) .nilIface ∧ Chg b w w' := by
  have h1 := Lib.hid (stopped_no b w h.c2)
  have h2 := numberUpTo_any b p s most w hL h.c0 h.c1 hp (by omega) hm hm2
  obtain ⟨z1, z2, z3, z4, z5⟩ := numU_ok s p most hc
  clear z5
  unfold numT at h2
  rw [hc] at h2
  have H2 := Lib.hid h2
  clear h2 hc
  generalize numU s p most = R at *
  have h3 := Lib.hid (fun n => take_ok b s p R.2.1 (w.drewN n) (h.drewN n) (by omega))
  clear hL hm hm2
  go_enter Tryd.func32, Tryd.ntmps32
  go_wp2_with (first | (go_at_call 48; refine h1.out.mono ?_; rintro e w' ⟨rfl, rfl⟩) | (go_at_call 52; refine H2.out.mono ?_; rintro e w' ⟨rfl, n, rfl⟩) | (go_at_call 50; refine (h3.out n).mono ?_; rintro e w' ⟨rfl, hin, hch⟩))
  go_ret
  exact ⟨rfl, hin, (Chg.drewN b w n).trans hch⟩
theorem manyS_le (s : ByteArray) (most : Int) (st : St) (h : st.p ≤ s.size) : (manyS s most st).2.p ≤ s.size := by
  unfold manyS
  by_cases h1 : st.F ≠ none
  · rw [if_pos h1]; exact h
  · rw [if_neg h1]
    by_cases h2 : (numU s st.p most).2.2 = 0
    · rw [if_pos h2]; exact (numU_ok s st.p most h2).1
    · rw [if_neg h2]; exact h
theorem Many_any (b : Nat) (s : ByteArray) (most : Int) (st : St) (w : World) (hL : Laid w) (h : InS w b s st.p st.F) (hp : st.p ≤ s.size) (hs : s.size ≤ 70368744177664) (hm : -9223372036854775808 ≤ most) (hm2 : most ≤ 9223372036854775807) :
    Calls Tryd.prog 32 #[.pointer (some ⟨b, 0, none⟩), .int .i64 most] w fun e w' => e = .returned (.int .i64 ((manyS s most st).1 : Nat)) ∧ InS w' b s (manyS s most st).2.p (manyS s most st).2.F ∧ Chg b w w' := by
  obtain ⟨f, hi, hf⟩ := h
  obtain ⟨p, F⟩ := st
  rcases F with _ | ⟨c, a⟩
  · obtain rfl : f = .nilIface := hf
    by_cases hc : (numU s p most).2.2 = 0
    · have e1 : manyS s most ⟨p, none⟩ = ((numU s p most).1, ⟨p + (numU s p most).2.1, none⟩) := by simp [manyS, hc]
      rw [e1]
      exact (Many_ok b p s most w hL hi hp hs hm hm2 hc).mono fun e w' ⟨h1, h2, h3⟩ => ⟨h1, ⟨_, h2, rfl⟩, h3⟩
    · have e1 : manyS s most ⟨p, none⟩ = (0, ⟨p, some (((numU s p most).2.2 : Nat), ((p : Nat) : Int))⟩) := by simp [manyS, hc]
      rw [e1]
      refine (Many_bad b p s most w hL hi hp (by omega) hm hm2 hc).mono fun e w' ⟨h1, n, h3⟩ => ?_
      subst h3
      exact ⟨h1, failW_in (hi.drewN n) _ _, (Chg.drewN b w n).trans (failW_chg _ _ _ _)⟩
  · have e1 : manyS s most ⟨p, some (c, a)⟩ = (0, ⟨p, some (c, a)⟩) := by simp [manyS]
    rw [e1]
    obtain ⟨fb, rfl, hb⟩ := hf
    refine (Many_late b _ _ most w hi.c2).mono fun e w' ⟨h1, h2⟩ => ?_
    subst h2
    exact ⟨h1, ⟨_, hi, fb, rfl, hb⟩, Chg.refl _ _⟩

/-! ### S -/
theorem S_late (b : Nat) (t : TypeId) (v : Value) (most : Int) (w : World) (h : w.cell? ⟨b, 2, none⟩ = some (.iface t v)) :
    Calls Tryd.prog 31 #[.pointer (some ⟨b, 0, none⟩), .int .i64 most] w fun e w' => e = .returned (.string ByteArray.empty) ∧ w = w' := by
  have hs := Lib.hid (stopped_yes b t v w h)
  go_enter Tryd.func31, Tryd.ntmps31
  go_wp2_with (go_at_call 48; refine hs.out.mono ?_; rintro e w' ⟨rfl, rfl⟩)
  go_ret
  exact ⟨rfl, rfl⟩
set_option maxHeartbeats 1000000 in
theorem S_bad (b p : Nat) (s : ByteArray) (most : Int) (w : World) (hL : Laid w) (h : InB w b s p .nilIface) (hp : p ≤ s.size) (hs : s.size ≤ 140737488355328) (hm : -9223372036854775808 ≤ most) (hm2 : most ≤ 9223372036854775807) (hc : (numU s p most).2.2 ≠ 0) :
    Calls Tryd.prog 31 #[.pointer (some ⟨b, 0, none⟩), .int .i64 most] w fun e w' => e = .returned (.string ByteArray.empty) ∧ ∃ n, w' = failW (w.drewN n) b (numU s p most).2.2 p := by
  have h1 := Lib.hid (stopped_no b w h.c2)
  have h2 := numberUpTo_any b p s most w hL h.c0 h.c1 hp hs hm hm2
  unfold numT at h2
  have H2 := Lib.hid h2
  clear h2
  generalize numU s p most = R at *
  have hc2 : ((R.2.2 : Int) == 0) = false := by rw [beq_eq_false_iff_ne]; omega
  have h3 := Lib.hid (fun n => take_bad b s p R.2.1 R.2.2 (w.drewN n) (h.drewN n) hc2)
  clear hL hc hm hm2
  go_enter Tryd.func31, Tryd.ntmps31
  go_wp2_with (first | (go_at_call 48; refine h1.out.mono ?_; rintro e w' ⟨rfl, rfl⟩) | (go_at_call 52; refine H2.out.mono ?_; rintro e w' ⟨rfl, n, rfl⟩) | (go_at_call 50; refine (h3.out n).mono ?_; rintro e w' ⟨rfl, rfl⟩))
  go_ret
  exact ⟨rfl, _, rfl⟩

set_option maxHeartbeats 1000000 in
theorem S_short (b p : Nat) (s : ByteArray) (most : Int) (w : World) (hL : Laid w) (h : InB w b s p .nilIface) (hp : p ≤ s.size) (hs : s.size ≤ 70368744177664) (hm : -9223372036854775808 ≤ most) (hm2 : most ≤ 9223372036854775807) (hc : (numU s p most).2.2 = 0)
    (hlong : s.size - p - (numU s p most).2.1 < (numU s p most).1) :
    Calls Tryd.prog 31 #[.pointer (some ⟨b, 0, none⟩), .int .i64 most] w fun e w' => e = .returned (.string ByteArray.empty) ∧ ∃ n, w' = failW (w.drewN n) b 3 p := by
  have h1 := Lib.hid (stopped_no b w h.c2)
  have h2 := numberUpTo_any b p s most w hL h.c0 h.c1 hp (by omega) hm hm2
  obtain ⟨z1, z2, z3, z4, z5⟩ := numU_ok s p most hc
  clear z5
  unfold numT at h2
  rw [hc] at h2
  have H2 := Lib.hid h2
  clear h2 hc
  generalize numU s p most = R at *
  have hgt : (s.size : Int) - (p : Int) - (R.2.1 : Int) < (R.1 : Int) := by omega
  have hLe := Lib.hid (fun n => Left_any b p s (w.drewN n) h.c0 h.c1 hp (by omega))
  have h3 := Lib.hid (fun n => take_bad b s p R.2.1 3 (w.drewN n) (h.drewN n) rfl)
  clear hL hm hm2 hlong
  go_enter Tryd.func31, Tryd.ntmps31
  go_wp2_with (first | (go_at_call 48; refine h1.out.mono ?_; rintro e w' ⟨rfl, rfl⟩) | (go_at_call 52; refine H2.out.mono ?_; rintro e w' ⟨rfl, n, rfl⟩) | (go_at_call 11; refine (hLe.out n).mono ?_; rintro e w' ⟨rfl, n2, rfl⟩) | (go_at_call 50; refine (h3.out (n + n2)).mono ?_; rintro e w' ⟨rfl, rfl⟩))
  go_ret
  exact ⟨rfl, _, rfl⟩

set_option maxHeartbeats 1000000 in
theorem S_ok (b p : Nat) (s : ByteArray) (most : Int) (w : World) (hL : Laid w) (h : InB w b s p .nilIface) (hp : p ≤ s.size) (hs : s.size ≤ 70368744177664) (hm : -9223372036854775808 ≤ most) (hm2 : most ≤ 9223372036854775807) (hc : (numU s p most).2.2 = 0)
    (hlong : ¬ s.size - p - (numU s p most).2.1 < (numU s p most).1) :
    Calls Tryd.prog 31 #[.pointer (some ⟨b, 0, none⟩), .int .i64 most] w fun e w' => e = .returned (.string (s.extract (p + (numU s p most).2.1) (p + (numU s p most).2.1 + (numU s p most).1))) ∧ InB w' b s (p + (numU s p most).2.1 + (numU s p most).1) .nilIface ∧ Chg b w w' := by
  have h1 := Lib.hid (stopped_no b w h.c2)
  have h2 := numberUpTo_any b p s most w hL h.c0 h.c1 hp (by omega) hm hm2
  obtain ⟨z1, z2, z3, z4, z5⟩ := numU_ok s p most hc
  clear z5
  unfold numT at h2
  rw [hc] at h2
  have H2 := Lib.hid h2
  clear h2 hc
  generalize numU s p most = R at *
  have hgt : ¬ (s.size : Int) - (p : Int) - (R.2.1 : Int) < (R.1 : Int) := by omega
  have hLe := Lib.hid (fun n => Left_any b p s (w.drewN n) h.c0 h.c1 hp (by omega))
  have h3 := Lib.hid (fun n => take_ok b s p R.2.1 (w.drewN n) (h.drewN n) (by omega))
  clear hL hm hm2
  go_enter Tryd.func31, Tryd.ntmps31
  go_wp2_with (first | (go_at_call 48; refine h1.out.mono ?_; rintro e w' ⟨rfl, rfl⟩) | (go_at_call 52; refine H2.out.mono ?_; rintro e w' ⟨rfl, n, rfl⟩) | (go_at_call 11; refine (hLe.out n).mono ?_; rintro e w' ⟨rfl, n2, rfl⟩) | (go_at_call 50; refine (h3.out (n + n2)).mono ?_; rintro e w2 ⟨rfl, hin, hch⟩; have k1 := hin.c1; have k0 := hin.c0; have kf := hin.fz 1; have HI := Lib.hid hin; have HC := Lib.hid hch; clear hin hch))
  have hW := Lib.hid (HI.out.place (p + R.2.1 + R.1))
  have kC := Lib.hid (((Chg.drewN b w (n + n2)).trans HC.out).trans (Chg.setCell b 1 w2 (.int .i64 ((p : Int) + (R.2.1 : Int) + (R.1 : Int)))))
  rw [show (((p + R.2.1 + R.1 : Nat)) : Int) = (p : Int) + (R.2.1 : Int) + (R.1 : Int) from by omega] at hW
  have k0' := hW.out.c0
  have k1' := hW.out.c1
  rw [show (((p + R.2.1 + R.1 : Nat)) : Int) = (p : Int) + (R.2.1 : Int) + (R.1 : Int) from by omega] at k1'
  clear k0 k1 kf
  generalize w2.setCell ⟨b, 1, none⟩ (.int .i64 ((p : Int) + (R.2.1 : Int) + (R.1 : Int))) = w3 at *
  have hsz : (s.extract (p + R.2.1) (p + R.2.1 + R.1)).size ≤ 281474976710656 := by rw [ByteArray.size_extract]; omega
  have HZ := Lib.hid hsz
  have hlt3 := hW.out.lt
  have hsl : ∀ W : World, (Instr.slice 9 (.string s) (some (.int .i64 ((p : Int) + (R.2.1 : Int)))) (some (.int .i64 ((p : Int) + (R.2.1 : Int) + (R.1 : Int)))) none).run Tryd.prog W = .ok (.string (s.extract (p + R.2.1) (p + R.2.1 + R.1))) W := fun W => by
    have h := run_slice_string (P := Tryd.prog) (w := W) 9 s .i64 .i64 ((p : Int) + (R.2.1 : Int)) ((p : Int) + (R.2.1 : Int) + (R.1 : Int)) Tryd.underlying9 (by omega) (by omega) (by omega)
    rw [h]
    have e1 : ((p : Int) + (R.2.1 : Int)).toNat = p + R.2.1 := by omega
    have e2 : ((p : Int) + (R.2.1 : Int) + (R.1 : Int)).toNat = p + R.2.1 + R.1 := by omega
    rw [e1, e2]
  clear hsz HI HC
  go_region_held3 (fun w' => w'.cell? ⟨b, 0, none⟩ = some (.string s) ∧ w'.cell? ⟨b, 1, none⟩ = some (.int .i64 ((p : Int) + (R.2.1 : Int) + (R.1 : Int)))) (first | exact ⟨k0', k1'⟩ | exact ⟨(hb4.cell (p := ⟨b, 0, none⟩) hlt3).trans k0', (hb4.cell (p := ⟨b, 1, none⟩) hlt3).trans k1'⟩)
    (first | (go_at_call 53; refine (clone_any (s.extract (p + R.2.1) (p + R.2.1 + R.1)) _ HZ.out).mono ?_; rintro e w4 ⟨rfl, hb4⟩))
  go_wp2
  go_ret
  exact ⟨rfl, InB.below (w := w3.drew) hW.out hb4 hlt3, kC.out.trans ((Chg.drewN b w3 1).trans (Chg.ofBelow (w := w3.drew) hb4 b))⟩
theorem strS_le (s : ByteArray) (most : Int) (st : St) (h : st.p ≤ s.size) : (strS s most st).2.p ≤ s.size := by
  unfold strS
  by_cases h1 : st.F ≠ none
  · rw [if_pos h1]; exact h
  · rw [if_neg h1]
    by_cases h2 : (numU s st.p most).2.2 = 0
    · rw [if_pos h2]
      have := (numU_ok s st.p most h2).1
      by_cases h3 : s.size - st.p - (numU s st.p most).2.1 < (numU s st.p most).1
      · rw [if_pos h3]; exact h
      · rw [if_neg h3]; show st.p + _ + _ ≤ _; omega
    · rw [if_neg h2]; exact h
theorem S_any (b : Nat) (s : ByteArray) (most : Int) (st : St) (w : World) (hL : Laid w) (h : InS w b s st.p st.F) (hp : st.p ≤ s.size) (hs : s.size ≤ 70368744177664) (hm : -9223372036854775808 ≤ most) (hm2 : most ≤ 9223372036854775807) :
    Calls Tryd.prog 31 #[.pointer (some ⟨b, 0, none⟩), .int .i64 most] w fun e w' => e = .returned (.string (strS s most st).1) ∧ InS w' b s (strS s most st).2.p (strS s most st).2.F ∧ Chg b w w' := by
  obtain ⟨f, hi, hf⟩ := h
  obtain ⟨p, F⟩ := st
  rcases F with _ | ⟨c, a⟩
  · obtain rfl : f = .nilIface := hf
    by_cases hc : (numU s p most).2.2 = 0
    · by_cases hl : s.size - p - (numU s p most).2.1 < (numU s p most).1
      · have e1 : strS s most ⟨p, none⟩ = (ByteArray.empty, ⟨p, some ((3 : Int), ((p : Nat) : Int))⟩) := by simp [strS, hc, hl]
        rw [e1]
        refine (S_short b p s most w hL hi hp hs hm hm2 hc hl).mono fun e w' ⟨h1, n, h3⟩ => ?_
        subst h3
        exact ⟨h1, failW_in (hi.drewN n) _ _, (Chg.drewN b w n).trans (failW_chg _ _ _ _)⟩
      · have e1 : strS s most ⟨p, none⟩ = (s.extract (p + (numU s p most).2.1) (p + (numU s p most).2.1 + (numU s p most).1), ⟨p + (numU s p most).2.1 + (numU s p most).1, none⟩) := by simp [strS, hc, hl]
        rw [e1]
        exact (S_ok b p s most w hL hi hp hs hm hm2 hc hl).mono fun e w' ⟨h1, h2, h3⟩ => ⟨h1, ⟨_, h2, rfl⟩, h3⟩
    · have e1 : strS s most ⟨p, none⟩ = (ByteArray.empty, ⟨p, some (((numU s p most).2.2 : Nat), ((p : Nat) : Int))⟩) := by simp [strS, hc]
      rw [e1]
      refine (S_bad b p s most w hL hi hp (by omega) hm hm2 hc).mono fun e w' ⟨h1, n, h3⟩ => ?_
      subst h3
      exact ⟨h1, failW_in (hi.drewN n) _ _, (Chg.drewN b w n).trans (failW_chg _ _ _ _)⟩
  · have e1 : strS s most ⟨p, some (c, a)⟩ = (ByteArray.empty, ⟨p, some (c, a)⟩) := by simp [strS]
    rw [e1]
    obtain ⟨fb, rfl, hb⟩ := hf
    refine (S_late b _ _ most w hi.c2).mono fun e w' ⟨h1, h2⟩ => ?_
    subst h2
    exact ⟨h1, ⟨_, hi, fb, rfl, hb⟩, Chg.refl _ _⟩

/-! ### An in that is none -/
theorem U_nil (w : World) : Calls Tryd.prog 27 #[.pointer none] w fun e w' => e = .returned (.int .u64 0) ∧ w = w' := by
  have hs := Lib.hid (stopped_nil w)
  go_enter Tryd.func27, Tryd.ntmps27
  go_wp2_with (go_at_call 48; refine hs.out.mono ?_; rintro e w' ⟨rfl, rfl⟩)
  go_ret
  exact ⟨rfl, rfl⟩
theorem B_nil (w : World) : Calls Tryd.prog 29 #[.pointer none] w fun e w' => e = .returned (.int .u8 0) ∧ w = w' := by
  have hs := Lib.hid (stopped_nil w)
  go_enter Tryd.func29, Tryd.ntmps29
  go_wp2_with (go_at_call 48; refine hs.out.mono ?_; rintro e w' ⟨rfl, rfl⟩)
  go_ret
  exact ⟨rfl, rfl⟩
theorem T_nil (w : World) : Calls Tryd.prog 30 #[.pointer none] w fun e w' => e = .returned (.bool false) ∧ w = w' := by
  have hs := Lib.hid (stopped_nil w)
  go_enter Tryd.func30, Tryd.ntmps30
  go_wp2_with (go_at_call 48; refine hs.out.mono ?_; rintro e w' ⟨rfl, rfl⟩)
  go_ret
  exact ⟨rfl, rfl⟩
theorem S_nil (most : Int) (w : World) : Calls Tryd.prog 31 #[.pointer none, .int .i64 most] w fun e w' => e = .returned (.string ByteArray.empty) ∧ w = w' := by
  have hs := Lib.hid (stopped_nil w)
  go_enter Tryd.func31, Tryd.ntmps31
  go_wp2_with (go_at_call 48; refine hs.out.mono ?_; rintro e w' ⟨rfl, rfl⟩)
  go_ret
  exact ⟨rfl, rfl⟩
theorem Many_nil (most : Int) (w : World) : Calls Tryd.prog 32 #[.pointer none, .int .i64 most] w fun e w' => e = .returned (.int .i64 0) ∧ w = w' := by
  have hs := Lib.hid (stopped_nil w)
  go_enter Tryd.func32, Tryd.ntmps32
  go_wp2_with (go_at_call 48; refine hs.out.mono ?_; rintro e w' ⟨rfl, rfl⟩)
  go_ret
  exact ⟨rfl, rfl⟩
theorem Fail_nil (c a : Int) (w : World) : Calls Tryd.prog 28 #[.pointer none, .int .i64 c, .int .i64 a] w fun e w' => e = .returned (.tuple #[]) ∧ w = w' := by
  have hs := Lib.hid (stopped_nil w)
  go_enter Tryd.func28, Tryd.ntmps28
  go_wp2_with (go_at_call 48; refine hs.out.mono ?_; rintro e w' ⟨rfl, rfl⟩)
  refine bodyPost_ret (results_none rfl _ _ _) rfl ?_
  exact ⟨rfl, rfl⟩

/-! ### A whole number -/
theorem xor_minus (x : Nat) (h : x < 4611686018427387904) : bits .xor .i64 (x : Int) (-1) = -(x : Int) - 1 := by
  show IntKind.i64.wrap ((BitVec.ofInt 64 (x : Int) ^^^ BitVec.ofInt 64 (-1)).toNat : Int) = _
  have e1 : BitVec.ofInt 64 (-1) = BitVec.allOnes 64 := by decide
  rw [e1, BitVec.xor_allOnes, BitVec.toNat_not, BitVec.ofInt_natCast, BitVec.toNat_ofNat, Nat.mod_eq_of_lt (by omega), IntKind.wrap_i64]
  omega
theorem xor_zero (x : Nat) (h : x < 4611686018427387904) : bits .xor .i64 (x : Int) 0 = (x : Int) := by
  show IntKind.i64.wrap ((BitVec.ofInt 64 (x : Int) ^^^ BitVec.ofInt 64 0).toNat : Int) = _
  have e1 : BitVec.ofInt 64 0 = 0#64 := by decide
  rw [e1, BitVec.xor_zero, BitVec.ofInt_natCast, BitVec.toNat_ofNat, Nat.mod_eq_of_lt (by omega), IntKind.wrap_i64]
  omega
theorem and_one (x : Nat) (h : x < 4611686018427387904) : bits .and .u64 (x : Int) 1 = ((x % 2 : Nat) : Int) := by
  have e := u64_and_nat x 1 (by omega) (by omega)
  rw [show (1 : Int) = ((1 : Nat) : Int) from rfl, e, nat_mask1]
set_option maxHeartbeats 1000000 in
theorem I_of (ptr : Value) (N : Nat) (hN : N < 4611686018427387904) (Q : World → World → Prop) (w : World) (hU : Calls Tryd.prog 27 #[ptr] w fun e w' => e = .returned (.int .u64 (N : Int)) ∧ Q w w') :
    Calls Tryd.prog 33 #[ptr] w fun e w' => e = .returned (.int .i64 (unzig N)) ∧ Q w w' := by
  have HU := Lib.hid hU
  clear hU
  have ha := and_one N hN
  rcases Nat.mod_two_eq_zero_or_one N with h | h
  · have hx := xor_zero (N / 2) (by omega)
    rw [show ((N / 2 : Nat) : Int) = (N : Int) / 2 from by omega] at hx
    have hz : unzig N = (N : Int) / 2 := by unfold unzig; rw [if_pos h]; omega
    have HZ := Lib.hid hz
    rw [h] at ha
    clear h hz
    go_enter Tryd.func33, Tryd.ntmps33
    go_wp2_with fail
    refine HU.out.mono ?_
    rintro e w1 ⟨rfl, hq⟩
    have HQ := Lib.hid hq
    clear hq
    go_wp2
    go_ret
    exact ⟨by rw [HZ.out]; rfl, HQ.out⟩
  · have hx := xor_minus (N / 2) (by omega)
    rw [show ((N / 2 : Nat) : Int) = (N : Int) / 2 from by omega] at hx
    have hz : unzig N = -((N : Int) / 2) - 1 := by unfold unzig; rw [if_neg (by omega)]; omega
    have HZ := Lib.hid hz
    rw [h] at ha
    clear h hz
    go_enter Tryd.func33, Tryd.ntmps33
    go_wp2_with fail
    refine HU.out.mono ?_
    rintro e w1 ⟨rfl, hq⟩
    have HQ := Lib.hid hq
    clear hq
    go_wp2
    go_ret
    exact ⟨by rw [HZ.out]; rfl, HQ.out⟩
theorem I_any (b : Nat) (s : ByteArray) (st : St) (w : World) (hL : Laid w) (h : InS w b s st.p st.F) (hp : st.p ≤ s.size) (hs : s.size ≤ 70368744177664) :
    Calls Tryd.prog 33 #[.pointer (some ⟨b, 0, none⟩)] w fun e w' => e = .returned (.int .i64 (unzig (uS s st).1)) ∧ InS w' b s (uS s st).2.p (uS s st).2.F ∧ Chg b w w' :=
  I_of _ _ (uS_lt s st) (fun w w' => InS w' b s (uS s st).2.p (uS s st).2.F ∧ Chg b w w') w (U_any b s st w hL h hp hs)
theorem I_nil (w : World) : Calls Tryd.prog 33 #[.pointer none] w fun e w' => e = .returned (.int .i64 0) ∧ w = w' :=
  I_of _ 0 (by omega) (fun w w' => w = w') w (U_nil w)
end Go.Proofs.YtmmdkoomceikiaaDoor
