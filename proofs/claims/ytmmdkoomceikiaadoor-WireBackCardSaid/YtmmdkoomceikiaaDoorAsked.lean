/-
  'asked' by its contract: whatever is asked of both ins is answered the same, and both go on in one state. Condition: the text is shorter than 2^46 bytes.
-/
import Derived.Test.YtmmdkoomceikiaaDoorBoth
namespace Go.Proofs.YtmmdkoomceikiaaDoor
open Go.RowKit

theorem Both.below {w w' : World} {b r : Nat} {s : ByteArray} {st : St} (h : Both w b r s st) (hb : Below w.heap.size w w') : Both w' b r s st :=
  ⟨h.laid.below hb h.laid.lt, h.hin.below hb (Nat.le_refl _), by have hr : RInB w r s st.p (fc st.F) (fa st.F) := h.href; exact hr.below hb hr.lt, h.ok, h.ple, h.b2, h.r2⟩
/-- What a call asked of both leaves. -/
def Step2 (w w' : World) (b r : Nat) (s : ByteArray) (st' : St) : Prop := Both w' b r s st' ∧ (∀ B, B ≤ b → B ≤ r → B ≤ w.heap.size → Below B w w')
theorem Both.step2 {w0 w w1 w2 : World} {b r : Nat} {s : ByteArray} {st st' : St} (h : Both w b r s st) (h0 : Below w0.heap.size w0 w) (h1 : InS w1 b s st'.p st'.F) (c1 : Chg b w w1) (h2 : RIn w2 r s st') (c2 : Chg r w1 w2) (hok : OkF st'.F) (hp : st'.p ≤ s.size) : Step2 w0 w2 b r s st' :=
  ⟨h.step h1 c1 h2 c2 hok hp, fun _ hb hr hB => ((h0.mono hB).trans (c1.below hb (Nat.le_trans hB h0.size))).trans (c2.below hr (Nat.le_trans hB (Nat.le_trans h0.size c1.size)))⟩

theorem Both.lt_in {w : World} {b r : Nat} {s : ByteArray} {st : St} (h : Both w b r s st) : b < w.heap.size := h.hin.lt
/-- The call that is asked lies in a block of its own: the program's in is another one. -/
theorem call_stays {w w1 : World} {b : Nat} {k N : Int} (hb : b < w.heap.size) (hc : Chg b (w.alloc (.cells #[.int .u8 k, .int .i16 N] 34)) w1) : w1.cell? ⟨w.heap.size, 1, none⟩ = some (.int .i16 N) := by
  have e := hc.other (k := w.heap.size) (by simp) (by omega)
  rw [heap_alloc_new] at e
  rw [cell_of_row w1 w.heap.size 1 _ _ _ e]
  rfl

theorem call_stays2 {w w1 w2 : World} {b r : Nat} {k N : Int} (hb : b < w.heap.size) (hr : r < w.heap.size) (hc : Chg b (w.alloc (.cells #[.int .u8 k, .int .i16 N] 34)) w1) (hd : Chg r w1 w2) : w2.cell? ⟨w.heap.size, 1, none⟩ = some (.int .i16 N) := by
  have e := hc.other (k := w.heap.size) (by simp) (by omega)
  rw [heap_alloc_new] at e
  have e2 := hd.other (k := w.heap.size) (by have := hc.size; simp at this; omega) (by omega)
  rw [e] at e2
  rw [cell_of_row w2 w.heap.size 1 _ _ _ e2]
  rfl
theorem Both.lt_ref {w : World} {b r : Nat} {s : ByteArray} {st : St} (h : Both w b r s st) : r < w.heap.size := by
  have hr : RInB w r s st.p (fc st.F) (fa st.F) := h.href
  exact hr.lt
theorem call_new (w : World) (k N : Int) : (w.alloc (.cells #[.int .u8 k, .int .i16 N] 34)).cell? ⟨w.heap.size, 1, none⟩ = some (.int .i16 N) := by
  rw [cell_of_row _ w.heap.size 1 _ _ _ (heap_alloc_new w _)]
  rfl

theorem asked_I (b r : Nat) (s : ByteArray) (st : St) (k N : Int) (w : World) (h : Both w b r s st) (hs : s.size ≤ 70368744177664) (hk : k.tmod 16 = 1) :
    Calls Tryd.prog 9 #[.pointer (some ⟨b, 0, none⟩), .pointer (some ⟨r, 0, none⟩), .agg #[.int .u8 k, .int .i16 N]] w fun e w' => e = .returned (.bool true) ∧ Step2 w w' b r s (uS s st).2 := by
  have hB := Lib.hid h
  have hI := Lib.hid (fun w (h : Both w b r s st) => I_any b s st w h.laid h.hin h.ple hs)
  have hR := Lib.hid (fun w (h : RIn w r s st) => rI_any r s st w h hB.out.ok hB.out.ple hs)
  clear h
  go_enter Tryd.func9, Tryd.ntmps9
  have H2 := Lib.hid (hB.out.below ((Below.refl w.heap.size w).alloc (Nat.le_refl _) (.cells #[.int .u8 k, .int .i16 N] 34)))
  go_wp2_with (first | (go_at_call 33; refine (hI.out _ H2.out).mono ?_; rintro e w1 ⟨rfl, hi, hc⟩; have HI := Lib.hid hi; have HC := Lib.hid hc; clear hi hc) | (go_at_call 34; refine (hR.out _ (H2.out.ref_stays HC.out)).mono ?_; rintro e w2 ⟨rfl, hr, hd⟩; have HR := Lib.hid hr; have HD := Lib.hid hd; clear hr hd))
  go_ret
  refine ⟨by simp, H2.out.step2 ((Below.refl w.heap.size w).alloc (Nat.le_refl _) _) HI.out HC.out HR.out HD.out (uS_ok s st hB.out.ok) (uS_le s st hB.out.ple)⟩
theorem asked_B (b r : Nat) (s : ByteArray) (st : St) (k N : Int) (w : World) (h : Both w b r s st) (hs : s.size ≤ 70368744177664) (hk : k.tmod 16 = 2) :
    Calls Tryd.prog 9 #[.pointer (some ⟨b, 0, none⟩), .pointer (some ⟨r, 0, none⟩), .agg #[.int .u8 k, .int .i16 N]] w fun e w' => e = .returned (.bool true) ∧ Step2 w w' b r s (bS s st).2 := by
  have hB := Lib.hid h
  have hI := Lib.hid (fun w (h : Both w b r s st) => B_any b s st w h.hin h.ple hs)
  have hR := Lib.hid (fun w (h : RIn w r s st) => rB_any r s st w h hB.out.ok hB.out.ple hs)
  clear h
  go_enter Tryd.func9, Tryd.ntmps9
  have H2 := Lib.hid (hB.out.below ((Below.refl w.heap.size w).alloc (Nat.le_refl _) (.cells #[.int .u8 k, .int .i16 N] 34)))
  go_wp2_with (first | (go_at_call 29; refine (hI.out _ H2.out).mono ?_; rintro e w1 ⟨rfl, hi, hc⟩; have HI := Lib.hid hi; have HC := Lib.hid hc; clear hi hc) | (go_at_call 35; refine (hR.out _ (H2.out.ref_stays HC.out)).mono ?_; rintro e w2 ⟨rfl, hr, hd⟩; have HR := Lib.hid hr; have HD := Lib.hid hd; clear hr hd))
  go_ret
  refine ⟨by simp, H2.out.step2 ((Below.refl w.heap.size w).alloc (Nat.le_refl _) _) HI.out HC.out HR.out HD.out (bS_ok s st hB.out.ok) (bS_le s st hB.out.ple)⟩
theorem asked_T (b r : Nat) (s : ByteArray) (st : St) (k N : Int) (w : World) (h : Both w b r s st) (hs : s.size ≤ 70368744177664) (hk : k.tmod 16 = 3) :
    Calls Tryd.prog 9 #[.pointer (some ⟨b, 0, none⟩), .pointer (some ⟨r, 0, none⟩), .agg #[.int .u8 k, .int .i16 N]] w fun e w' => e = .returned (.bool true) ∧ Step2 w w' b r s (tS s st).2 := by
  have hB := Lib.hid h
  have hI := Lib.hid (fun w (h : Both w b r s st) => T_any b s st w h.hin h.ple hs)
  have hR := Lib.hid (fun w (h : RIn w r s st) => rT_any r s st w h hB.out.ok hB.out.ple hs)
  clear h
  go_enter Tryd.func9, Tryd.ntmps9
  have H2 := Lib.hid (hB.out.below ((Below.refl w.heap.size w).alloc (Nat.le_refl _) (.cells #[.int .u8 k, .int .i16 N] 34)))
  go_wp2_with (first | (go_at_call 30; refine (hI.out _ H2.out).mono ?_; rintro e w1 ⟨rfl, hi, hc⟩; have HI := Lib.hid hi; have HC := Lib.hid hc; clear hi hc) | (go_at_call 36; refine (hR.out _ (H2.out.ref_stays HC.out)).mono ?_; rintro e w2 ⟨rfl, hr, hd⟩; have HR := Lib.hid hr; have HD := Lib.hid hd; clear hr hd))
  go_ret
  refine ⟨by simp, H2.out.step2 ((Below.refl w.heap.size w).alloc (Nat.le_refl _) _) HI.out HC.out HR.out HD.out (tS_ok s st hB.out.ok) (tS_le s st hB.out.ple)⟩
theorem asked_U (b r : Nat) (s : ByteArray) (st : St) (k N q : Int) (w : World) (h : Both w b r s st) (hs : s.size ≤ 70368744177664) (hk : k.tmod 16 = q) (n1 : (q == 1) = false) (n2 : (q == 2) = false) (n3 : (q == 3) = false) (n4 : (q == 4) = false) (n5 : (q == 5) = false) (n6 : (q == 6) = false) (n7 : (q == 7) = false) (n8 : (q == 8) = false) :
    Calls Tryd.prog 9 #[.pointer (some ⟨b, 0, none⟩), .pointer (some ⟨r, 0, none⟩), .agg #[.int .u8 k, .int .i16 N]] w fun e w' => e = .returned (.bool true) ∧ Step2 w w' b r s (uS s st).2 := by
  have hB := Lib.hid h
  have hI := Lib.hid (fun w (h : Both w b r s st) => U_any b s st w h.laid h.hin h.ple hs)
  have hR := Lib.hid (fun w (h : RIn w r s st) => rU_any r s st w h hB.out.ok hB.out.ple hs)
  clear h
  go_enter Tryd.func9, Tryd.ntmps9
  have H2 := Lib.hid (hB.out.below ((Below.refl w.heap.size w).alloc (Nat.le_refl _) (.cells #[.int .u8 k, .int .i16 N] 34)))
  go_wp2_with (first | (go_at_call 27; refine (hI.out _ H2.out).mono ?_; rintro e w1 ⟨rfl, hi, hc⟩; have HI := Lib.hid hi; have HC := Lib.hid hc; clear hi hc) | (go_at_call 40; refine (hR.out _ (H2.out.ref_stays HC.out)).mono ?_; rintro e w2 ⟨rfl, hr, hd⟩; have HR := Lib.hid hr; have HD := Lib.hid hd; clear hr hd))
  go_ret
  refine ⟨by simp, H2.out.step2 ((Below.refl w.heap.size w).alloc (Nat.le_refl _) _) HI.out HC.out HR.out HD.out (uS_ok s st hB.out.ok) (uS_le s st hB.out.ple)⟩
theorem Fail_any (b : Nat) (s : ByteArray) (c a : Int) (st : St) (w : World) (h : InS w b s st.p st.F) :
    Calls Tryd.prog 28 #[.pointer (some ⟨b, 0, none⟩), .int .i64 c, .int .i64 a] w fun e w' => e = .returned (.tuple #[]) ∧ InS w' b s (failS st c a).p (failS st c a).F ∧ Chg b w w' := by
  obtain ⟨f, hi, hf⟩ := h
  obtain ⟨p, F⟩ := st
  rcases F with _ | ⟨c0, a0⟩
  · obtain rfl : f = .nilIface := hf
    by_cases hc : c = 0
    · subst hc
      have e1 : failS ⟨p, none⟩ 0 a = ⟨p, none⟩ := by simp [failS]
      rw [e1]
      refine (Fail_ok b s p a w hi).mono fun e w' ⟨h1, h2⟩ => ?_
      subst h2
      exact ⟨h1, ⟨_, hi, rfl⟩, Chg.refl _ _⟩
    · have e1 : failS ⟨p, none⟩ c a = ⟨p, some (c, a)⟩ := by simp [failS, hc]
      rw [e1]
      refine (Fail_set b s p c a w hi (ne_beq hc)).mono fun e w' ⟨h1, h2⟩ => ?_
      subst h2
      exact ⟨h1, failW_in hi _ _, failW_chg _ _ _ _⟩
  · have e1 : failS ⟨p, some (c0, a0)⟩ c a = ⟨p, some (c0, a0)⟩ := by simp [failS]
    rw [e1]
    obtain ⟨fb, rfl, hb⟩ := hf
    refine (Fail_late b _ _ c a w hi.c2).mono fun e w' ⟨h1, h2⟩ => ?_
    subst h2
    exact ⟨h1, ⟨_, hi, fb, rfl, hb⟩, Chg.refl _ _⟩
theorem failS_le (s : ByteArray) (st : St) (c a : Int) (h : st.p ≤ s.size) : (failS st c a).p ≤ s.size := by
  unfold failS
  split <;> exact h

theorem asked_F (b r : Nat) (s : ByteArray) (st : St) (k N M : Int) (w : World) (h : Both w b r s st) (hN1 : -32768 ≤ N) (hN2 : N ≤ 32767) (hM : N.tmod 30 = M) (hM1 : -30 < M) (hM2 : M < 30) (hk : k.tmod 16 = 8) :
    Calls Tryd.prog 9 #[.pointer (some ⟨b, 0, none⟩), .pointer (some ⟨r, 0, none⟩), .agg #[.int .u8 k, .int .i16 N]] w fun e w' => e = .returned (.bool true) ∧ Step2 w w' b r s (failS st M N) := by
  have hB := Lib.hid h
  have hI := Lib.hid (fun w (h : Both w b r s st) => Fail_any b s M N st w h.hin)
  have hR := Lib.hid (fun w (h : RIn w r s st) => rFail_any r s M N st w h hB.out.ok)
  have hbl := hB.out.lt_in
  clear h
  go_enter Tryd.func9, Tryd.ntmps9
  have H2 := Lib.hid (hB.out.below ((Below.refl w.heap.size w).alloc (Nat.le_refl _) (.cells #[.int .u8 k, .int .i16 N] 34)))
  go_wp2_with (first | (go_at_call 28; refine (hI.out _ H2.out).mono ?_; rintro e w1 ⟨rfl, hi, hc⟩; have kd := call_stays (k := k) (N := N) hbl hc; have HI := Lib.hid hi; have HC := Lib.hid hc; clear hi hc) | (go_at_call 39; refine (hR.out _ (H2.out.ref_stays HC.out)).mono ?_; rintro e w2 ⟨rfl, hr, hd⟩; have HR := Lib.hid hr; have HD := Lib.hid hd; clear hr hd))
  go_ret
  refine ⟨by simp, H2.out.step2 ((Below.refl w.heap.size w).alloc (Nat.le_refl _) _) HI.out HC.out HR.out HD.out (failS_ok st M N hB.out.ok) (failS_le s st M N hB.out.ple)⟩
end Go.Proofs.YtmmdkoomceikiaaDoor
