/-
  'asked' by its contract at the two kinds that bear a number: S and Many. Condition: the text is shorter than 2^46 bytes.
-/
import Derived.Test.YtmmdkoomceikiaaDoorAsked
import Derived.Deep.RegionHeld3
import Derived.IntWalk
namespace Go.Proofs.YtmmdkoomceikiaaDoor
open Go.RowKit

theorem Both.drewN {w : World} {b r : Nat} {s : ByteArray} {st : St} (h : Both w b r s st) (n : Nat) : Both (w.drewN n) b r s st :=
  ⟨h.laid.drewN n, h.hin.drewN n, RInB.drewN (show RInB w r s st.p (fc st.F) (fa st.F) from h.href) n, h.ok, h.ple, h.b2, h.r2⟩
theorem Both.drew {w : World} {b r : Nat} {s : ByteArray} {st : St} (h : Both w b r s st) : Both w.drew b r s st := h.drewN 1

theorem asked_S4 (b r : Nat) (s : ByteArray) (st : St) (k N q : Int) (w : World) (h : Both w b r s st) (hs : s.size ≤ 70368744177664) (hN1 : -32768 ≤ N) (hN2 : N ≤ 32767) (hk : k.tmod 16 = q) (n1 : (q == 1) = false) (n2 : (q == 2) = false) (n3 : (q == 3) = false) (n4 : (q == 4) = true) :
    Calls Tryd.prog 9 #[.pointer (some ⟨b, 0, none⟩), .pointer (some ⟨r, 0, none⟩), .agg #[.int .u8 k, .int .i16 N]] w fun e w' => e = .returned (.bool true) ∧ Step2 w w' b r s (strS s N st).2 := by
  have hB := Lib.hid h
  have hI := Lib.hid (fun w (h : Both w b r s st) => S_any b s N st w h.laid h.hin h.ple hs (by omega) (by omega))
  have hR := Lib.hid (fun w (h : RIn w r s st) => rStr_any r s N st w h hB.out.ok hB.out.ple hs (by omega))
  have hbl := hB.out.lt_in
  clear h
  have H2 := Lib.hid ((hB.out.below ((Below.refl w.heap.size w).alloc (Nat.le_refl _) (.cells #[.int .u8 k, .int .i16 N] 34))).drew)
  have B0 := Lib.hid (((Below.refl w.heap.size w).alloc (Nat.le_refl _) (.cells #[.int .u8 k, .int .i16 N] 34)).drew)
  have hc := call_new w k N
  go_enter Tryd.func9, Tryd.ntmps9
  go_wp2
  have C1 := Lib.hid (fun w1 (h : Chg b (w.alloc (.cells #[.int .u8 k, .int .i16 N] 34)).drew w1) => call_stays (k := k) (N := N) hbl ((Chg.drewN b _ 1).trans h))
  have C2 := Lib.hid (fun w1 w2 (h : Chg b (w.alloc (.cells #[.int .u8 k, .int .i16 N] 34)).drew w1) (h2 : Chg r w1 w2) => call_stays2 (k := k) (N := N) hbl hB.out.lt_ref ((Chg.drewN b _ 1).trans h) h2)
  generalize w.alloc (.cells #[.int .u8 k, .int .i16 N] 34) = W at *
  have hw : IntKind.i64.wrap N = N := IntWalk.i64_in _ (by omega)
  go_region_held3 (fun w' => w'.cell? ⟨w.heap.size, 1, none⟩ = some (.int .i16 N)) (go_keep) (first | (go_at_call 31; refine (hI.out _ H2.out).mono ?_; rintro e w1 ⟨rfl, hi, hch⟩; have kd := C1.out _ hch; have HI := Lib.hid hi; have HC := Lib.hid hch; clear hi hch) | (go_at_call 37; refine (hR.out _ (H2.out.ref_stays HC.out)).mono ?_; rintro e w2 ⟨rfl, hr, hd⟩; have kd2 := C2.out _ _ HC.out hd; have HR := Lib.hid hr; have HD := Lib.hid hd; clear hr hd))
  all_goals go_wp2
  go_ret
  exact ⟨by simp, H2.out.step2 B0.out HI.out HC.out HR.out HD.out (strS_ok s N st hB.out.ok) (strS_le s N st hB.out.ple)⟩
theorem asked_S5 (b r : Nat) (s : ByteArray) (st : St) (k N q : Int) (w : World) (h : Both w b r s st) (hs : s.size ≤ 70368744177664) (hN1 : -32768 ≤ N) (hN2 : N ≤ 32767) (hk : k.tmod 16 = q) (n1 : (q == 1) = false) (n2 : (q == 2) = false) (n3 : (q == 3) = false) (n4 : (q == 4) = false) (n5 : (q == 5) = true) :
    Calls Tryd.prog 9 #[.pointer (some ⟨b, 0, none⟩), .pointer (some ⟨r, 0, none⟩), .agg #[.int .u8 k, .int .i16 N]] w fun e w' => e = .returned (.bool true) ∧ Step2 w w' b r s (strS s N st).2 := by
  have hB := Lib.hid h
  have hI := Lib.hid (fun w (h : Both w b r s st) => S_any b s N st w h.laid h.hin h.ple hs (by omega) (by omega))
  have hR := Lib.hid (fun w (h : RIn w r s st) => rStr_any r s N st w h hB.out.ok hB.out.ple hs (by omega))
  have hbl := hB.out.lt_in
  clear h
  have H2 := Lib.hid ((hB.out.below ((Below.refl w.heap.size w).alloc (Nat.le_refl _) (.cells #[.int .u8 k, .int .i16 N] 34))).drew)
  have B0 := Lib.hid (((Below.refl w.heap.size w).alloc (Nat.le_refl _) (.cells #[.int .u8 k, .int .i16 N] 34)).drew)
  have hc := call_new w k N
  go_enter Tryd.func9, Tryd.ntmps9
  go_wp2
  have C1 := Lib.hid (fun w1 (h : Chg b (w.alloc (.cells #[.int .u8 k, .int .i16 N] 34)).drew w1) => call_stays (k := k) (N := N) hbl ((Chg.drewN b _ 1).trans h))
  have C2 := Lib.hid (fun w1 w2 (h : Chg b (w.alloc (.cells #[.int .u8 k, .int .i16 N] 34)).drew w1) (h2 : Chg r w1 w2) => call_stays2 (k := k) (N := N) hbl hB.out.lt_ref ((Chg.drewN b _ 1).trans h) h2)
  generalize w.alloc (.cells #[.int .u8 k, .int .i16 N] 34) = W at *
  have hw : IntKind.i64.wrap N = N := IntWalk.i64_in _ (by omega)
  go_region_held3 (fun w' => w'.cell? ⟨w.heap.size, 1, none⟩ = some (.int .i16 N)) (go_keep) (first | (go_at_call 31; refine (hI.out _ H2.out).mono ?_; rintro e w1 ⟨rfl, hi, hch⟩; have kd := C1.out _ hch; have HI := Lib.hid hi; have HC := Lib.hid hch; clear hi hch) | (go_at_call 37; refine (hR.out _ (H2.out.ref_stays HC.out)).mono ?_; rintro e w2 ⟨rfl, hr, hd⟩; have kd2 := C2.out _ _ HC.out hd; have HR := Lib.hid hr; have HD := Lib.hid hd; clear hr hd))
  all_goals go_wp2
  go_ret
  exact ⟨by simp, H2.out.step2 B0.out HI.out HC.out HR.out HD.out (strS_ok s N st hB.out.ok) (strS_le s N st hB.out.ple)⟩
theorem asked_M6 (b r : Nat) (s : ByteArray) (st : St) (k N q : Int) (w : World) (h : Both w b r s st) (hs : s.size ≤ 70368744177664) (hN1 : -32768 ≤ N) (hN2 : N ≤ 32767) (hk : k.tmod 16 = q) (n1 : (q == 1) = false) (n2 : (q == 2) = false) (n3 : (q == 3) = false) (n4 : (q == 4) = false) (n5 : (q == 5) = false) (n6 : (q == 6) = true) :
    Calls Tryd.prog 9 #[.pointer (some ⟨b, 0, none⟩), .pointer (some ⟨r, 0, none⟩), .agg #[.int .u8 k, .int .i16 N]] w fun e w' => e = .returned (.bool true) ∧ Step2 w w' b r s (manyS s N st).2 := by
  have hB := Lib.hid h
  have hI := Lib.hid (fun w (h : Both w b r s st) => Many_any b s N st w h.laid h.hin h.ple hs (by omega) (by omega))
  have hR := Lib.hid (fun w (h : RIn w r s st) => rMany_any r s N st w h hB.out.ok hB.out.ple hs (by omega))
  have hbl := hB.out.lt_in
  clear h
  have H2 := Lib.hid ((hB.out.below ((Below.refl w.heap.size w).alloc (Nat.le_refl _) (.cells #[.int .u8 k, .int .i16 N] 34))).drew)
  have B0 := Lib.hid (((Below.refl w.heap.size w).alloc (Nat.le_refl _) (.cells #[.int .u8 k, .int .i16 N] 34)).drew)
  have hc := call_new w k N
  go_enter Tryd.func9, Tryd.ntmps9
  go_wp2
  have C1 := Lib.hid (fun w1 (h : Chg b (w.alloc (.cells #[.int .u8 k, .int .i16 N] 34)).drew w1) => call_stays (k := k) (N := N) hbl ((Chg.drewN b _ 1).trans h))
  have C2 := Lib.hid (fun w1 w2 (h : Chg b (w.alloc (.cells #[.int .u8 k, .int .i16 N] 34)).drew w1) (h2 : Chg r w1 w2) => call_stays2 (k := k) (N := N) hbl hB.out.lt_ref ((Chg.drewN b _ 1).trans h) h2)
  generalize w.alloc (.cells #[.int .u8 k, .int .i16 N] 34) = W at *
  have hw : IntKind.i64.wrap N = N := IntWalk.i64_in _ (by omega)
  go_region_held3 (fun w' => w'.cell? ⟨w.heap.size, 1, none⟩ = some (.int .i16 N)) (go_keep) (first | (go_at_call 32; refine (hI.out _ H2.out).mono ?_; rintro e w1 ⟨rfl, hi, hch⟩; have kd := C1.out _ hch; have HI := Lib.hid hi; have HC := Lib.hid hch; clear hi hch) | (go_at_call 38; refine (hR.out _ (H2.out.ref_stays HC.out)).mono ?_; rintro e w2 ⟨rfl, hr, hd⟩; have kd2 := C2.out _ _ HC.out hd; have HR := Lib.hid hr; have HD := Lib.hid hd; clear hr hd))
  all_goals go_wp2
  go_ret
  exact ⟨by simp, H2.out.step2 B0.out HI.out HC.out HR.out HD.out (manyS_ok s N st hB.out.ok) (manyS_le s N st hB.out.ple)⟩
theorem asked_M7 (b r : Nat) (s : ByteArray) (st : St) (k N q : Int) (w : World) (h : Both w b r s st) (hs : s.size ≤ 70368744177664) (hN1 : -32768 ≤ N) (hN2 : N ≤ 32767) (hk : k.tmod 16 = q) (n1 : (q == 1) = false) (n2 : (q == 2) = false) (n3 : (q == 3) = false) (n4 : (q == 4) = false) (n5 : (q == 5) = false) (n6 : (q == 6) = false) (n7 : (q == 7) = true) :
    Calls Tryd.prog 9 #[.pointer (some ⟨b, 0, none⟩), .pointer (some ⟨r, 0, none⟩), .agg #[.int .u8 k, .int .i16 N]] w fun e w' => e = .returned (.bool true) ∧ Step2 w w' b r s (manyS s N st).2 := by
  have hB := Lib.hid h
  have hI := Lib.hid (fun w (h : Both w b r s st) => Many_any b s N st w h.laid h.hin h.ple hs (by omega) (by omega))
  have hR := Lib.hid (fun w (h : RIn w r s st) => rMany_any r s N st w h hB.out.ok hB.out.ple hs (by omega))
  have hbl := hB.out.lt_in
  clear h
  have H2 := Lib.hid ((hB.out.below ((Below.refl w.heap.size w).alloc (Nat.le_refl _) (.cells #[.int .u8 k, .int .i16 N] 34))).drew)
  have B0 := Lib.hid (((Below.refl w.heap.size w).alloc (Nat.le_refl _) (.cells #[.int .u8 k, .int .i16 N] 34)).drew)
  have hc := call_new w k N
  go_enter Tryd.func9, Tryd.ntmps9
  go_wp2
  have C1 := Lib.hid (fun w1 (h : Chg b (w.alloc (.cells #[.int .u8 k, .int .i16 N] 34)).drew w1) => call_stays (k := k) (N := N) hbl ((Chg.drewN b _ 1).trans h))
  have C2 := Lib.hid (fun w1 w2 (h : Chg b (w.alloc (.cells #[.int .u8 k, .int .i16 N] 34)).drew w1) (h2 : Chg r w1 w2) => call_stays2 (k := k) (N := N) hbl hB.out.lt_ref ((Chg.drewN b _ 1).trans h) h2)
  generalize w.alloc (.cells #[.int .u8 k, .int .i16 N] 34) = W at *
  have hw : IntKind.i64.wrap N = N := IntWalk.i64_in _ (by omega)
  go_region_held3 (fun w' => w'.cell? ⟨w.heap.size, 1, none⟩ = some (.int .i16 N)) (go_keep) (first | (go_at_call 32; refine (hI.out _ H2.out).mono ?_; rintro e w1 ⟨rfl, hi, hch⟩; have kd := C1.out _ hch; have HI := Lib.hid hi; have HC := Lib.hid hch; clear hi hch) | (go_at_call 38; refine (hR.out _ (H2.out.ref_stays HC.out)).mono ?_; rintro e w2 ⟨rfl, hr, hd⟩; have kd2 := C2.out _ _ HC.out hd; have HR := Lib.hid hr; have HD := Lib.hid hd; clear hr hd))
  all_goals go_wp2
  go_ret
  exact ⟨by simp, H2.out.step2 B0.out HI.out HC.out HR.out HD.out (manyS_ok s N st hB.out.ok) (manyS_le s N st hB.out.ple)⟩

theorem tmod30 (N : Int) : -30 < N.tmod 30 ∧ N.tmod 30 < 30 := by
  rcases Int.le_total 0 N with h | h
  · rw [Int.tmod_eq_emod_of_nonneg h]; omega
  · have h2 : (-N).tmod 30 = (-N) % 30 := Int.tmod_eq_emod_of_nonneg (by omega)
    rw [Int.neg_tmod] at h2
    omega
/-- What a call leaves of the state. -/
def stepS (s : ByteArray) (st : St) (k N : Int) : St :=
  if k.tmod 16 = 1 then (uS s st).2 else if k.tmod 16 = 2 then (bS s st).2 else if k.tmod 16 = 3 then (tS s st).2
  else if k.tmod 16 = 4 ∨ k.tmod 16 = 5 then (strS s N st).2 else if k.tmod 16 = 6 ∨ k.tmod 16 = 7 then (manyS s N st).2
  else if k.tmod 16 = 8 then failS st (N.tmod 30) N else (uS s st).2
theorem asked_any (b r : Nat) (s : ByteArray) (st : St) (k N : Int) (w : World) (h : Both w b r s st) (hs : s.size ≤ 70368744177664) (hN1 : -32768 ≤ N) (hN2 : N ≤ 32767) :
    Calls Tryd.prog 9 #[.pointer (some ⟨b, 0, none⟩), .pointer (some ⟨r, 0, none⟩), .agg #[.int .u8 k, .int .i16 N]] w fun e w' => e = .returned (.bool true) ∧ Step2 w w' b r s (stepS s st k N) := by
  unfold stepS
  generalize hk : k.tmod 16 = q
  by_cases h1 : q = 1
  · rw [if_pos h1]; exact asked_I b r s st k N w h hs (hk.trans h1)
  rw [if_neg h1]
  by_cases h2 : q = 2
  · rw [if_pos h2]; exact asked_B b r s st k N w h hs (hk.trans h2)
  rw [if_neg h2]
  by_cases h3 : q = 3
  · rw [if_pos h3]; exact asked_T b r s st k N w h hs (hk.trans h3)
  rw [if_neg h3]
  have n1 := beq_eq_false_iff_ne.2 h1
  have n2 := beq_eq_false_iff_ne.2 h2
  have n3 := beq_eq_false_iff_ne.2 h3
  by_cases h4 : q = 4
  · rw [if_pos (Or.inl h4)]; exact asked_S4 b r s st k N q w h hs hN1 hN2 hk n1 n2 n3 (by simp [h4])
  have n4 := beq_eq_false_iff_ne.2 h4
  by_cases h5 : q = 5
  · rw [if_pos (Or.inr h5)]; exact asked_S5 b r s st k N q w h hs hN1 hN2 hk n1 n2 n3 n4 (by simp [h5])
  have n5 := beq_eq_false_iff_ne.2 h5
  rw [if_neg (by omega)]
  by_cases h6 : q = 6
  · rw [if_pos (Or.inl h6)]; exact asked_M6 b r s st k N q w h hs hN1 hN2 hk n1 n2 n3 n4 n5 (by simp [h6])
  have n6 := beq_eq_false_iff_ne.2 h6
  by_cases h7 : q = 7
  · rw [if_pos (Or.inr h7)]; exact asked_M7 b r s st k N q w h hs hN1 hN2 hk n1 n2 n3 n4 n5 n6 (by simp [h7])
  have n7 := beq_eq_false_iff_ne.2 h7
  rw [if_neg (by omega)]
  by_cases h8 : q = 8
  · rw [if_pos h8]; exact asked_F b r s st k N _ w h hN1 hN2 rfl (tmod30 N).1 (tmod30 N).2 (hk.trans h8)
  rw [if_neg h8]
  exact asked_U b r s st k N q w h hs hk n1 n2 n3 n4 n5 n6 n7 (beq_eq_false_iff_ne.2 h8)
end Go.Proofs.YtmmdkoomceikiaaDoor
