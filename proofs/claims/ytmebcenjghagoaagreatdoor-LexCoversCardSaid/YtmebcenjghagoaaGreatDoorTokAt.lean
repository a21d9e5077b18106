/-
  The program's own tokenAt, walked. Conditions: the listed variables marks and strconv.ErrRange hold what they hold; the text is shorter than 2^46 bytes.
-/
import Derived.Test.YtmebcenjghagoaaGreatDoorTok
namespace Go.Proofs.YtmebcenjghagoaaGreatDoor
open Go.RowKit

theorem drew_block {w w2 : World} {n : Nat} (hb : Below ((w.alloc (.cells #[.int .i64 0, .int .i64 0, .int .i64 0, .string ⟨#[]⟩, .int .i64 0] 38)).drewN n).heap.size ((w.alloc (.cells #[.int .i64 0, .int .i64 0, .int .i64 0, .string ⟨#[]⟩, .int .i64 0] 38)).drewN n) w2) :
    w.heap.size < w2.heap.size ∧ w2.heap[w.heap.size]? = some (.cells #[.int .i64 0, .int .i64 0, .int .i64 0, .string ⟨#[]⟩, .int .i64 0] 38 (0, 0)) ∧ Below w.heap.size w w2 := by
  have e : ((w.alloc (.cells #[.int .i64 0, .int .i64 0, .int .i64 0, .string ⟨#[]⟩, .int .i64 0] 38)).drewN n).heap.size = w.heap.size + 1 := by
    show (w.alloc (.cells #[.int .i64 0, .int .i64 0, .int .i64 0, .string ⟨#[]⟩, .int .i64 0] 38)).heap.size = _
    exact World.size_alloc _ _
  have hz := hb.size
  rw [e] at hz hb
  exact ⟨by omega, (hb.block w.heap.size (by omega)).trans (heap_alloc_new w _), (below_drewN ((Below.refl w.heap.size w).alloc (Nat.le_refl _) _) n).trans (hb.mono (by omega))⟩

set_option maxRecDepth 100000 in
set_option maxHeartbeats 2000000 in
theorem tokenAt_2 (s : ByteArray) (p : Nat) (w : World) (hL : LaidL w) (hs : s.size ≤ 70368744177664) (hp : p < s.size) (hk : kindS (bAt s p) = 2) :
    Calls Tryz.prog 47 #[.string s, .int .i64 (p : Int)] w (TokAns (tokS s p) w) := by
  have hb1 : Below w.heap.size w (w.alloc (.cells #[.int .i64 0, .int .i64 0, .int .i64 0, .string ⟨#[]⟩, .int .i64 0] 38)) := (Below.refl _ _).alloc (Nat.le_refl _) _
  have hL1 : LaidL (w.alloc (.cells #[.int .i64 0, .int .i64 0, .int .i64 0, .string ⟨#[]⟩, .int .i64 0] 38)) := hL.below hb1 hL.lt
  have HK := Lib.hid (kindOf_any (bAt s p) (bAt_lt s p) _ hL1.mks)
  have hbb := bAt_eq s p hp
  have ke : ((p : Int) == (s.size : Int)) = false := by simp; omega
  have hl := (kind_is (bAt s p)).1 (by omega)
  have hT : tokS s p = nameT s p := by unfold tokS oneT; rw [if_pos hp, if_pos hl]
  have hC := nameAt_any s p _ hL1.mks hs (by omega)
  rw [hk] at HK
  have kb2 : (bits BinOp.and IntKind.u8 2 2 != 0) = true := by decide
  obtain ⟨⟨tk, fc, fa⟩, hr⟩ : ∃ r, nameT s p = r := ⟨_, rfl⟩
  rw [hr] at hC hT
  clear hr hk hl hL hL1
  have HE := Lib.hid hT
  clear hT
  by_cases hf : fc = 0
  · subst hf
    have HC := Lib.hid (hC.mono fun e w' h => h.ok rfl)
    unfold tok0 at HC
    clear hC
    go_enter Tryz.func47, Tryz.ntmps47
    go_wp2_with (first | (go_at_call 66; refine HK.out.mono ?_; rintro e w' ⟨rfl, rfl⟩) | (go_at_call 67; go_must (refine HC.out.mono ?_; rintro e w2 ⟨rfl, hb2⟩; have hz2 : w.heap.size < w2.heap.size := (by have := hb2.size; simp only [World.size_alloc] at this; omega); have hr2 := (hb2.block w.heap.size (by simp only [World.size_alloc]; omega)).trans (heap_alloc_new w _); obtain ⟨⟨q0, q1, q2, q3, q4⟩, f0, f1, f2, f3, f4⟩ := tok_cells hr2; have HR2 := Lib.hid hr2; have HB2 := Lib.hid (hb1.trans (hb2.mono (by simp only [World.size_alloc]; omega))); clear hr2 hb2)))
    refine bodyPost_ret (v := .tuple #[.agg #[.int .i64 (tk.k : Int), .int .i64 (tk.p : Int), .int .i64 0, .string tk.t, .int .i64 tk.n], .nilIface]) (by simp [results, Tryz.results47, go_sem, q0, q1, q2, q3, q4]) rfl ⟨_, _, rfl, ?_, ?_, ?_⟩
    · rw [HE.out]; exact Or.inl ⟨rfl, rfl⟩
    · rw [HE.out]; rfl
    · exact below5 HB2.out (Nat.le_refl _) _ _ _ _ _
  · have HN := Lib.hid hf
    have HC := Lib.hid (hC.mono fun e w' h => h.bad hf)
    clear hC hf
    go_enter Tryz.func47, Tryz.ntmps47
    go_wp2_with (first | (go_at_call 66; refine HK.out.mono ?_; rintro e w' ⟨rfl, rfl⟩) | (go_at_call 67; go_must (refine HC.out.mono ?_; rintro e w2 ⟨b, rfl, hb0, hrb, hb2⟩; simp only [World.size_alloc] at hb0; have HRB := Lib.hid hrb; clear hrb; have hz2 : w.heap.size < w2.heap.size := (by have := hb2.size; simp only [World.size_alloc] at this; omega); have hr2 := (hb2.block w.heap.size (by simp only [World.size_alloc]; omega)).trans (heap_alloc_new w _); obtain ⟨⟨q0, q1, q2, q3, q4⟩, f0, f1, f2, f3, f4⟩ := tok_cells hr2; have HR2 := Lib.hid hr2; have HB2 := Lib.hid (hb1.trans (hb2.mono (by simp only [World.size_alloc]; omega))); clear hr2 hb2)))
    refine bodyPost_ret (v := .tuple #[.agg #[.int .i64 0, .int .i64 0, .int .i64 0, .string ⟨#[]⟩, .int .i64 0], .iface 68 (.pointer (some ⟨b, 0, none⟩))]) (by simp [results, Tryz.results47, go_sem, q0, q1, q2, q3, q4]) rfl ⟨_, _, rfl, ?_, ?_, ?_⟩
    · rw [HE.out]
      refine Or.inr ⟨HN.out, b, by omega, rfl, ?_⟩
      exact row5 HRB.out (by omega) _ _ _ _ _
    · rw [HE.out, if_neg HN.out]
    · exact below5 HB2.out (Nat.le_refl _) _ _ _ _ _
set_option maxRecDepth 100000 in
set_option maxHeartbeats 2000000 in
theorem tokenAt_10 (s : ByteArray) (p : Nat) (w : World) (hL : LaidL w) (hs : s.size ≤ 70368744177664) (hp : p < s.size) (hk : kindS (bAt s p) = 10) :
    Calls Tryz.prog 47 #[.string s, .int .i64 (p : Int)] w (TokAns (tokS s p) w) := by
  have hb1 : Below w.heap.size w (w.alloc (.cells #[.int .i64 0, .int .i64 0, .int .i64 0, .string ⟨#[]⟩, .int .i64 0] 38)) := (Below.refl _ _).alloc (Nat.le_refl _) _
  have hL1 : LaidL (w.alloc (.cells #[.int .i64 0, .int .i64 0, .int .i64 0, .string ⟨#[]⟩, .int .i64 0] 38)) := hL.below hb1 hL.lt
  have HK := Lib.hid (kindOf_any (bAt s p) (bAt_lt s p) _ hL1.mks)
  have hbb := bAt_eq s p hp
  have ke : ((p : Int) == (s.size : Int)) = false := by simp; omega
  have hl := (kind_is (bAt s p)).1 (by omega)
  have hT : tokS s p = nameT s p := by unfold tokS oneT; rw [if_pos hp, if_pos hl]
  have hC := nameAt_any s p _ hL1.mks hs (by omega)
  rw [hk] at HK
  have kb2 : (bits BinOp.and IntKind.u8 10 2 != 0) = true := by decide
  obtain ⟨⟨tk, fc, fa⟩, hr⟩ : ∃ r, nameT s p = r := ⟨_, rfl⟩
  rw [hr] at hC hT
  clear hr hk hl hL hL1
  have HE := Lib.hid hT
  clear hT
  by_cases hf : fc = 0
  · subst hf
    have HC := Lib.hid (hC.mono fun e w' h => h.ok rfl)
    unfold tok0 at HC
    clear hC
    go_enter Tryz.func47, Tryz.ntmps47
    go_wp2_with (first | (go_at_call 66; refine HK.out.mono ?_; rintro e w' ⟨rfl, rfl⟩) | (go_at_call 67; go_must (refine HC.out.mono ?_; rintro e w2 ⟨rfl, hb2⟩; have hz2 : w.heap.size < w2.heap.size := (by have := hb2.size; simp only [World.size_alloc] at this; omega); have hr2 := (hb2.block w.heap.size (by simp only [World.size_alloc]; omega)).trans (heap_alloc_new w _); obtain ⟨⟨q0, q1, q2, q3, q4⟩, f0, f1, f2, f3, f4⟩ := tok_cells hr2; have HR2 := Lib.hid hr2; have HB2 := Lib.hid (hb1.trans (hb2.mono (by simp only [World.size_alloc]; omega))); clear hr2 hb2)))
    refine bodyPost_ret (v := .tuple #[.agg #[.int .i64 (tk.k : Int), .int .i64 (tk.p : Int), .int .i64 0, .string tk.t, .int .i64 tk.n], .nilIface]) (by simp [results, Tryz.results47, go_sem, q0, q1, q2, q3, q4]) rfl ⟨_, _, rfl, ?_, ?_, ?_⟩
    · rw [HE.out]; exact Or.inl ⟨rfl, rfl⟩
    · rw [HE.out]; rfl
    · exact below5 HB2.out (Nat.le_refl _) _ _ _ _ _
  · have HN := Lib.hid hf
    have HC := Lib.hid (hC.mono fun e w' h => h.bad hf)
    clear hC hf
    go_enter Tryz.func47, Tryz.ntmps47
    go_wp2_with (first | (go_at_call 66; refine HK.out.mono ?_; rintro e w' ⟨rfl, rfl⟩) | (go_at_call 67; go_must (refine HC.out.mono ?_; rintro e w2 ⟨b, rfl, hb0, hrb, hb2⟩; simp only [World.size_alloc] at hb0; have HRB := Lib.hid hrb; clear hrb; have hz2 : w.heap.size < w2.heap.size := (by have := hb2.size; simp only [World.size_alloc] at this; omega); have hr2 := (hb2.block w.heap.size (by simp only [World.size_alloc]; omega)).trans (heap_alloc_new w _); obtain ⟨⟨q0, q1, q2, q3, q4⟩, f0, f1, f2, f3, f4⟩ := tok_cells hr2; have HR2 := Lib.hid hr2; have HB2 := Lib.hid (hb1.trans (hb2.mono (by simp only [World.size_alloc]; omega))); clear hr2 hb2)))
    refine bodyPost_ret (v := .tuple #[.agg #[.int .i64 0, .int .i64 0, .int .i64 0, .string ⟨#[]⟩, .int .i64 0], .iface 68 (.pointer (some ⟨b, 0, none⟩))]) (by simp [results, Tryz.results47, go_sem, q0, q1, q2, q3, q4]) rfl ⟨_, _, rfl, ?_, ?_, ?_⟩
    · rw [HE.out]
      refine Or.inr ⟨HN.out, b, by omega, rfl, ?_⟩
      exact row5 HRB.out (by omega) _ _ _ _ _
    · rw [HE.out, if_neg HN.out]
    · exact below5 HB2.out (Nat.le_refl _) _ _ _ _ _
set_option maxRecDepth 100000 in
set_option maxHeartbeats 2000000 in
theorem tokenAt_12 (s : ByteArray) (p : Nat) (w : World) (hL : LaidL w) (hs : s.size ≤ 70368744177664) (hp : p < s.size) (hk : kindS (bAt s p) = 12) :
    Calls Tryz.prog 47 #[.string s, .int .i64 (p : Int)] w (TokAns (tokS s p) w) := by
  have hb1 : Below w.heap.size w (w.alloc (.cells #[.int .i64 0, .int .i64 0, .int .i64 0, .string ⟨#[]⟩, .int .i64 0] 38)) := (Below.refl _ _).alloc (Nat.le_refl _) _
  have hL1 : LaidL (w.alloc (.cells #[.int .i64 0, .int .i64 0, .int .i64 0, .string ⟨#[]⟩, .int .i64 0] 38)) := hL.below hb1 hL.lt
  have HK := Lib.hid (kindOf_any (bAt s p) (bAt_lt s p) _ hL1.mks)
  have hbb := bAt_eq s p hp
  have ke : ((p : Int) == (s.size : Int)) = false := by simp; omega
  obtain ⟨hl, hd⟩ := (kind_is (bAt s p)).2.1 hk
  have hT : tokS s p = digitT s p := by unfold tokS oneT; rw [if_pos hp, if_neg (by simp [hl]), if_pos hd]
  have hC := numberAt_any s p _ hL1 hs hp hd
  rw [hk] at HK
  have kb2 : (bits BinOp.and IntKind.u8 12 2 != 0) = false := by decide
  have kb4 : (bits BinOp.and IntKind.u8 12 4 != 0) = true := by decide
  obtain ⟨⟨tk, fc, fa⟩, hr⟩ : ∃ r, digitT s p = r := ⟨_, rfl⟩
  rw [hr] at hC hT
  clear hr hk hl hL hL1 hd
  have HE := Lib.hid hT
  clear hT
  by_cases hf : fc = 0
  · subst hf
    have HC := Lib.hid (hC.mono fun e w' h => h.ok rfl)
    unfold tok0 at HC
    clear hC
    go_enter Tryz.func47, Tryz.ntmps47
    go_wp2_with (first | (go_at_call 66; refine HK.out.mono ?_; rintro e w' ⟨rfl, rfl⟩) | (go_at_call 68; go_must (refine HC.out.mono ?_; rintro e w2 ⟨rfl, hb2⟩; have hz2 : w.heap.size < w2.heap.size := (by have := hb2.size; simp only [World.size_alloc] at this; omega); have hr2 := (hb2.block w.heap.size (by simp only [World.size_alloc]; omega)).trans (heap_alloc_new w _); obtain ⟨⟨q0, q1, q2, q3, q4⟩, f0, f1, f2, f3, f4⟩ := tok_cells hr2; have HR2 := Lib.hid hr2; have HB2 := Lib.hid (hb1.trans (hb2.mono (by simp only [World.size_alloc]; omega))); clear hr2 hb2)))
    refine bodyPost_ret (v := .tuple #[.agg #[.int .i64 (tk.k : Int), .int .i64 (tk.p : Int), .int .i64 0, .string tk.t, .int .i64 tk.n], .nilIface]) (by simp [results, Tryz.results47, go_sem, q0, q1, q2, q3, q4]) rfl ⟨_, _, rfl, ?_, ?_, ?_⟩
    · rw [HE.out]; exact Or.inl ⟨rfl, rfl⟩
    · rw [HE.out]; rfl
    · exact below5 HB2.out (Nat.le_refl _) _ _ _ _ _
  · have HN := Lib.hid hf
    have HC := Lib.hid (hC.mono fun e w' h => h.bad hf)
    clear hC hf
    go_enter Tryz.func47, Tryz.ntmps47
    go_wp2_with (first | (go_at_call 66; refine HK.out.mono ?_; rintro e w' ⟨rfl, rfl⟩) | (go_at_call 68; go_must (refine HC.out.mono ?_; rintro e w2 ⟨b, rfl, hb0, hrb, hb2⟩; simp only [World.size_alloc] at hb0; have HRB := Lib.hid hrb; clear hrb; have hz2 : w.heap.size < w2.heap.size := (by have := hb2.size; simp only [World.size_alloc] at this; omega); have hr2 := (hb2.block w.heap.size (by simp only [World.size_alloc]; omega)).trans (heap_alloc_new w _); obtain ⟨⟨q0, q1, q2, q3, q4⟩, f0, f1, f2, f3, f4⟩ := tok_cells hr2; have HR2 := Lib.hid hr2; have HB2 := Lib.hid (hb1.trans (hb2.mono (by simp only [World.size_alloc]; omega))); clear hr2 hb2)))
    refine bodyPost_ret (v := .tuple #[.agg #[.int .i64 0, .int .i64 0, .int .i64 0, .string ⟨#[]⟩, .int .i64 0], .iface 68 (.pointer (some ⟨b, 0, none⟩))]) (by simp [results, Tryz.results47, go_sem, q0, q1, q2, q3, q4]) rfl ⟨_, _, rfl, ?_, ?_, ?_⟩
    · rw [HE.out]
      refine Or.inr ⟨HN.out, b, by omega, rfl, ?_⟩
      exact row5 HRB.out (by omega) _ _ _ _ _
    · rw [HE.out, if_neg HN.out]
    · exact below5 HB2.out (Nat.le_refl _) _ _ _ _ _
set_option maxRecDepth 100000 in
set_option maxHeartbeats 2000000 in
theorem tokenAt_16 (s : ByteArray) (p : Nat) (w : World) (hL : LaidL w) (hs : s.size ≤ 70368744177664) (hp : p < s.size) (hk : kindS (bAt s p) = 16) :
    Calls Tryz.prog 47 #[.string s, .int .i64 (p : Int)] w (TokAns (tokS s p) w) := by
  have hb1 : Below w.heap.size w (w.alloc (.cells #[.int .i64 0, .int .i64 0, .int .i64 0, .string ⟨#[]⟩, .int .i64 0] 38)) := (Below.refl _ _).alloc (Nat.le_refl _) _
  have hL1 : LaidL (w.alloc (.cells #[.int .i64 0, .int .i64 0, .int .i64 0, .string ⟨#[]⟩, .int .i64 0] 38)) := hL.below hb1 hL.lt
  have HK := Lib.hid (kindOf_any (bAt s p) (bAt_lt s p) _ hL1.mks)
  have hbb := bAt_eq s p hp
  have ke : ((p : Int) == (s.size : Int)) = false := by simp; omega
  obtain ⟨hl, hd, hm⟩ := (kind_is (bAt s p)).2.2.1 hk
  obtain ⟨m, hm1, hm2, hm3⟩ := markS_mk s p hp hm
  have hT : tokS s p = (⟨3, p, lineS s p, m, 0⟩, (0, 0)) := by unfold tokS oneT markT; rw [if_pos hp, if_neg (by simp [hl]), if_neg (by simp [hd]), hm1]
  have HE := Lib.hid hT
  have hle : p + m.size ≤ s.size := by
    have h := hm2
    simp only [isM, Bool.and_eq_true, decide_eq_true_eq] at h
    exact h.1
  have hB := behindMark_any s p _ hL1.mks hs (by omega)
  rw [hm3] at hB
  have HBM := Lib.hid hB
  have hC := fun w => tokenOf_any 3 s p (p + m.size) hs (by omega) hle w
  rw [isM_text s p m hm2] at hC
  have HT := Lib.hid hC
  rw [hk] at HK
  clear hT hB hC hl hd hm hm1 hm2 hm3 hk hL hL1
  have kb2 : (bits BinOp.and IntKind.u8 16 2 != 0) = false := by decide
  have kb4 : (bits BinOp.and IntKind.u8 16 4 != 0) = false := by decide
  have kb16 : (bits BinOp.and IntKind.u8 16 16 != 0) = true := by decide
  go_enter Tryz.func47, Tryz.ntmps47
  go_wp2_with (first | (go_at_call 66; refine HK.out.mono ?_; rintro e w' ⟨rfl, rfl⟩) | (go_at_call 69; go_must (refine HBM.out.mono ?_; rintro e w' ⟨rfl, n, rfl⟩)) | (go_at_call 65; go_must (refine (HT.out _).mono ?_; rintro e w2 ⟨rfl, hb2⟩; obtain ⟨hz2, hr2, hbw⟩ := drew_block hb2; obtain ⟨⟨q0, q1, q2, q3, q4⟩, f0, f1, f2, f3, f4⟩ := tok_cells hr2; have HB2 := Lib.hid hbw; clear hr2 hb2 hbw)))
  refine bodyPost_ret (v := .tuple #[.agg #[.int .i64 3, .int .i64 (p : Int), .int .i64 0, .string m, .int .i64 0], .nilIface]) (by simp [results, Tryz.results47, go_sem, q0, q1, q2, q3, q4]) rfl ⟨_, _, rfl, ?_, ?_, ?_⟩
  · rw [HE.out]; exact Or.inl ⟨rfl, rfl⟩
  · rw [HE.out]; rfl
  · exact below5 HB2.out (Nat.le_refl _) _ _ _ _ _
set_option maxRecDepth 100000 in
set_option maxHeartbeats 2000000 in
theorem tokenAt_no (s : ByteArray) (p : Nat) (w : World) (hL : LaidL w) (hp : p < s.size) (k : Nat) (hk : kindS (bAt s p) = k) (hk2 : k = 0 ∨ k = 1) :
    Calls Tryz.prog 47 #[.string s, .int .i64 (p : Int)] w (TokAns (tokS s p) w) := by
  have hb1 : Below w.heap.size w (w.alloc (.cells #[.int .i64 0, .int .i64 0, .int .i64 0, .string ⟨#[]⟩, .int .i64 0] 38)) := (Below.refl _ _).alloc (Nat.le_refl _) _
  have hL1 : LaidL (w.alloc (.cells #[.int .i64 0, .int .i64 0, .int .i64 0, .string ⟨#[]⟩, .int .i64 0] 38)) := hL.below hb1 hL.lt
  have HK := Lib.hid (kindOf_any (bAt s p) (bAt_lt s p) _ hL1.mks)
  have hbb := bAt_eq s p hp
  have ke : ((p : Int) == (s.size : Int)) = false := by simp; omega
  obtain ⟨hl, hd, hm⟩ := (kind_is (bAt s p)).2.2.2 (by omega)
  have hT : tokS s p = (⟨0, p, lineS s p, ByteArray.empty, 0⟩, (7, p)) := by unfold tokS oneT markT; rw [if_pos hp, if_neg (by simp [hl]), if_neg (by simp [hd]), markS_no s p hm]
  have HE := Lib.hid hT
  have HF := Lib.hid fault_any
  rw [hk] at HK
  clear hT hl hd hm hk hL hL1
  rcases hk2 with rfl | rfl
  · have kb2 : (bits BinOp.and IntKind.u8 0 2 != 0) = false := by decide
    have kb4 : (bits BinOp.and IntKind.u8 0 4 != 0) = false := by decide
    have kb16 : (bits BinOp.and IntKind.u8 0 16 != 0) = false := by decide
    go_enter Tryz.func47, Tryz.ntmps47
    go_wp2_with (first | (go_at_call 66; refine HK.out.mono ?_; rintro e w' ⟨rfl, rfl⟩) | (go_at_call 30; refine (HF.out _ _ _).mono ?_; rintro e w' ⟨rfl, rfl⟩))
    refine bodyPost_ret (v := .tuple #[.agg #[.int .i64 0, .int .i64 0, .int .i64 0, .string ⟨#[]⟩, .int .i64 0], .iface 68 (.pointer (some ⟨w.heap.size + 1, 0, none⟩))]) (by simp [results, Tryz.results47, go_sem]) rfl ⟨_, _, rfl, ?_, ?_, ?_⟩
    · rw [HE.out]
      refine Or.inr ⟨Nat.succ_ne_zero 6, w.heap.size + 1, by omega, rfl, ?_⟩
      exact heap_alloc2_new _ _ _
    · rw [HE.out]; rfl
    · exact ((Below.refl _ _).alloc (Nat.le_refl _) _).alloc (by simp) _
  · have kb2 : (bits BinOp.and IntKind.u8 1 2 != 0) = false := by decide
    have kb4 : (bits BinOp.and IntKind.u8 1 4 != 0) = false := by decide
    have kb16 : (bits BinOp.and IntKind.u8 1 16 != 0) = false := by decide
    go_enter Tryz.func47, Tryz.ntmps47
    go_wp2_with (first | (go_at_call 66; refine HK.out.mono ?_; rintro e w' ⟨rfl, rfl⟩) | (go_at_call 30; refine (HF.out _ _ _).mono ?_; rintro e w' ⟨rfl, rfl⟩))
    refine bodyPost_ret (v := .tuple #[.agg #[.int .i64 0, .int .i64 0, .int .i64 0, .string ⟨#[]⟩, .int .i64 0], .iface 68 (.pointer (some ⟨w.heap.size + 1, 0, none⟩))]) (by simp [results, Tryz.results47, go_sem]) rfl ⟨_, _, rfl, ?_, ?_, ?_⟩
    · rw [HE.out]
      refine Or.inr ⟨Nat.succ_ne_zero 6, w.heap.size + 1, by omega, rfl, ?_⟩
      exact heap_alloc2_new _ _ _
    · rw [HE.out]; rfl
    · exact ((Below.refl _ _).alloc (Nat.le_refl _) _).alloc (by simp) _
set_option maxRecDepth 100000 in
set_option maxHeartbeats 2000000 in
theorem tokenAt_end (s : ByteArray) (w : World) (hs : s.size ≤ 70368744177664) :
    Calls Tryz.prog 47 #[.string s, .int .i64 (s.size : Int)] w (TokAns (tokS s s.size) w) := by
  have hb1 : Below w.heap.size w (w.alloc (.cells #[.int .i64 0, .int .i64 0, .int .i64 0, .string ⟨#[]⟩, .int .i64 0] 38)) := (Below.refl _ _).alloc (Nat.le_refl _) _
  have hT : tokS s s.size = (⟨0, s.size, lineS s s.size, ByteArray.empty, 0⟩, (0, 0)) := by unfold tokS; rw [if_neg (Nat.lt_irrefl _)]
  have HE := Lib.hid hT
  have hC := fun w => tokenOf_any 0 s s.size s.size hs (Nat.le_refl _) (Nat.le_refl _) w
  rw [extract_self] at hC
  have HT := Lib.hid hC
  clear hT hC
  go_enter Tryz.func47, Tryz.ntmps47
  go_wp2_with (go_at_call 65; go_must (refine (HT.out _).mono ?_; rintro e w2 ⟨rfl, hb2⟩; have hz2 : w.heap.size < w2.heap.size := (by have := hb2.size; simp only [World.size_alloc] at this; omega); have hr2 := (hb2.block w.heap.size (by simp only [World.size_alloc]; omega)).trans (heap_alloc_new w _); obtain ⟨⟨q0, q1, q2, q3, q4⟩, f0, f1, f2, f3, f4⟩ := tok_cells hr2; have HB2 := Lib.hid (hb1.trans (hb2.mono (by simp only [World.size_alloc]; omega))); clear hr2 hb2))
  refine bodyPost_ret (v := .tuple #[.agg #[.int .i64 0, .int .i64 (s.size : Int), .int .i64 0, .string ⟨#[]⟩, .int .i64 0], .nilIface]) (by simp [results, Tryz.results47, go_sem, q0, q1, q2, q3, q4]) rfl ⟨_, _, rfl, ?_, ?_, ?_⟩
  · rw [HE.out]; exact Or.inl ⟨rfl, rfl⟩
  · rw [HE.out]; rfl
  · exact below5 HB2.out (Nat.le_refl _) _ _ _ _ _
theorem tokenAt_any (s : ByteArray) (p : Nat) (w : World) (hL : LaidL w) (hs : s.size ≤ 70368744177664) (hp : p ≤ s.size) :
    Calls Tryz.prog 47 #[.string s, .int .i64 (p : Int)] w (TokAns (tokS s p) w) := by
  rcases Nat.lt_or_eq_of_le hp with h | rfl
  · rcases kind_ways (bAt s p) with hk | hk | hk | hk | hk | hk
    · exact tokenAt_no s p w hL h 0 hk (Or.inl rfl)
    · exact tokenAt_no s p w hL h 1 hk (Or.inr rfl)
    · exact tokenAt_2 s p w hL hs h hk
    · exact tokenAt_10 s p w hL hs h hk
    · exact tokenAt_12 s p w hL hs h hk
    · exact tokenAt_16 s p w hL hs h hk
  · exact tokenAt_end s w hs
end Go.Proofs.YtmebcenjghagoaaGreatDoor
