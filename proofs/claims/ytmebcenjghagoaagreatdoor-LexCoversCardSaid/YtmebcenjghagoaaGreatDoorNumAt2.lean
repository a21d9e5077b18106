/-
  The program's own numberAt, walked. Conditions: the listed variables marks and strconv.ErrRange hold what they hold; the text is shorter than 2^46 bytes.
-/
import Derived.Test.YtmebcenjghagoaaGreatDoorNumAt
namespace Go.Proofs.YtmebcenjghagoaaGreatDoor
open Go.RowKit

set_option maxRecDepth 100000 in
set_option maxHeartbeats 1000000 in
theorem numberAt_dec (s : ByteArray) (p : Nat) (w : World) (hL : LaidL w) (hs : s.size ≤ 70368744177664) (hp : p < s.size) (hx : isX s p = false) (hD : isD (bAt s p) = true) :
    Calls Tryz.prog 68 #[.string s, .int .i64 (p : Int)] w (TokAns (digitT s p) w) := by
  have hb1 : Below w.heap.size w (w.alloc (.cells #[.int .i64 0, .int .i64 0, .int .i64 0, .string ⟨#[]⟩, .int .i64 0] 38)) := (Below.refl _ _).alloc (Nat.le_refl _) _
  have hL1 : LaidL (w.alloc (.cells #[.int .i64 0, .int .i64 0, .int .i64 0, .string ⟨#[]⟩, .int .i64 0] 38)) := hL.below hb1 hL.lt
  have hlt := hL.lt
  have HP := Lib.hid (by have := Tryz.strings_HasPrefix (s.extract p s.size) ⟨#[48, 120]⟩ (w.alloc (.cells #[.int .i64 0, .int .i64 0, .int .i64 0, .string ⟨#[]⟩, .int .i64 0] 38)); rw [pre_0x, hx] at this; exact this)
  have HF := Lib.hid fault_any
  have hne : numE s p = numS s ((10 : Nat) : Int) p 0 := by unfold numE; rw [if_neg (by simp [hx])]; rfl
  obtain ⟨he, hsome, hnone⟩ := numE_pu s p 10 4 p dig10 (by omega) hne (by omega)
  have hst := span_step (ofK 4) s p hp (by rw [(ofK_all _).2.1]; exact hD)
  have hst2 := span_ge (ofK 4) s (p + 1)
  have hq1 := span_ge (ofK 4) s (p)
  have hq2 := span_le (ofK 4) s (p) (by omega)
  have hin := span_in (ofK 4) s (p)
  have HA := Lib.hid (behindAll_4 s (p) _ hL1.mks hs (by omega))
  rw [← hst] at hst2
  obtain ⟨q, hq⟩ : ∃ q, spanS (ofK 4) s (p) = q := ⟨_, rfl⟩
  rw [hq] at hq1 hq2 he hsome hnone hin HA hst2
  clear hq hne hst
  have HA6 := Lib.hid (fun w2 (h2 : Below w.heap.size w w2) => by have := behindAll_6 s q w2 (hL.below h2 hlt).mks hs hq2; rw [span6_wend] at this; exact this)
  have HT := Lib.hid (fun w => tokenOf_any 2 s p q hs (by omega) hq2 w)
  have hts : (s.extract (p) q).size = q - (p) := size_extract_of s (p) q (by omega) hq2
  have hPU := pu10 (s.extract (p) q) (by omega) (by omega) (fun i hi => by rw [bAt_extract s (p) q i hq2 (by omega)]; rw [← (ofK_all _).2.1]; exact hin (p + i) (by omega) (by omega)) _ hL1.er
  rw [hts] at hPU
  have kq : ((q : Int) == (p : Int)) = false := by simp; omega
  have nx : ¬ (isX s p = true ∧ q = p + 2) := fun h => by rw [hx] at h; exact absurd h.1 (by simp)
  have kle : (p : Int) ≤ (q : Int) := by omega
  have kle2 : (q : Int) ≤ (s.size : Int) := by omega
  obtain ⟨r, hr⟩ : ∃ r, puS (s.extract (p) q) 10 0 (q - (p)) 0 = r := ⟨_, rfl⟩
  rw [hr] at hsome hnone hPU
  clear hr hin hts
  cases r with
  | none =>
    have HE := Lib.hid (digitT_n s p q he nx (hnone rfl))
    have HPU := Lib.hid hPU
    unfold PuAns at HPU
    clear hPU hsome hnone he nx hL hL1 HT HA6
    go_enter Tryz.func68, Tryz.ntmps68
    go_wp2_with (first | (go_at_call 32; refine HP.out.mono ?_; rintro e w' ⟨rfl, rfl⟩) | (go_at_call 79; go_must (refine HPU.out.mono ?_; rintro e w2 ⟨x, N, rfl, hb2⟩; simp only [World.size_alloc] at hb2; have hz2 : w.heap.size < w2.heap.size := (by have := hb2.size; simp only [World.size_alloc] at this; omega); have hr2 := (hb2.block w.heap.size (by omega)).trans (heap_alloc_new w _); obtain ⟨⟨q0, q1, q2, q3, q4⟩, f0, f1, f2, f3, f4⟩ := tok_cells hr2; have HR2 := Lib.hid hr2; have HB2 := Lib.hid (hb1.trans (hb2.mono (by omega))); clear hr2 hb2; have tok2 : True := trivial)) | (go_at_call 63; go_must (refine HA.out.mono ?_; rintro e w' ⟨rfl, rfl⟩)) | (go_at_call 30; go_must (refine (HF.out _ _ _).mono ?_; rintro e w' ⟨rfl, rfl⟩)))
    refine bodyPost_ret (v := .tuple #[.agg #[.int .i64 0, .int .i64 0, .int .i64 0, .string ⟨#[]⟩, .int .i64 0], .iface 68 (.pointer (some ⟨w2.heap.size, 0, none⟩))]) (by simp [results, Tryz.results68, go_sem, q0, q1, q2, q3, q4, hz2]) rfl ⟨_, _, rfl, ?_, ?_, ?_⟩
    · rw [HE.out]
      refine Or.inr ⟨Nat.succ_ne_zero 9, w2.heap.size, by omega, rfl, ?_⟩
      exact alloc_at _ _ _ (by simp)
    · rw [HE.out]; rfl
    · exact (((((HB2.out.setCell (p := ⟨w.heap.size, 0, none⟩) (Nat.le_refl _) _).setCell (p := ⟨w.heap.size, 1, none⟩) (Nat.le_refl _) _).setCell (p := ⟨w.heap.size, 2, none⟩) (Nat.le_refl _) _).setCell (p := ⟨w.heap.size, 3, none⟩) (Nat.le_refl _) _).setCell (p := ⟨w.heap.size, 4, none⟩) (Nat.le_refl _) _).alloc (by simp; omega) _
  | some v =>
    have hv := hsome v rfl
    have HPU := Lib.hid hPU
    unfold PuAns at HPU
    have hwq := isW_wend s q
    have hv2 : (v : Int) ≤ 4294967295 := by omega
    cases hw : isW s q
    · have HE := Lib.hid (digitT_t s p q v he nx hv hw)
      rw [hwq.2 hw] at HA6
      clear hPU hsome hnone he nx hL hL1 hv hwq hw
      go_enter Tryz.func68, Tryz.ntmps68
      go_wp2_with (first | (go_at_call 32; refine HP.out.mono ?_; rintro e w' ⟨rfl, rfl⟩) | (go_at_call 79; go_must (refine HPU.out.mono ?_; rintro e w2 ⟨rfl, hb2⟩; simp only [World.size_alloc] at hb2; have hz2 : w.heap.size < w2.heap.size := (by have := hb2.size; simp only [World.size_alloc] at this; omega); have hr2 := (hb2.block w.heap.size (by omega)).trans (heap_alloc_new w _); obtain ⟨⟨q0, q1, q2, q3, q4⟩, f0, f1, f2, f3, f4⟩ := tok_cells hr2; have HR2 := Lib.hid hr2; have HB2 := Lib.hid (hb1.trans (hb2.mono (by omega))); clear hr2 hb2; have tok2 : True := trivial)) | (go_at_call 63; have _t := tok2; go_must (refine (HA6.out _ HB2.out).mono ?_; rintro e w' ⟨rfl, rfl⟩)) | (go_at_call 63; go_must (refine HA.out.mono ?_; rintro e w' ⟨rfl, rfl⟩)) | (go_at_call 30; go_must (refine (HF.out _ _ _).mono ?_; rintro e w' ⟨rfl, rfl⟩)) | (go_at_call 65; go_must (refine (HT.out _).mono ?_; rintro e w3 ⟨rfl, hb3⟩; have hz3 : w.heap.size < w3.heap.size := (by have := hb3.size; omega); have hr3 := (hb3.block w.heap.size (by omega)).trans HR2.out; clear q0 q1 q2 q3 q4 f0 f1 f2 f3 f4; obtain ⟨⟨q0, q1, q2, q3, q4⟩, f0, f1, f2, f3, f4⟩ := tok_cells hr3; have HB3 := Lib.hid (HB2.out.trans (hb3.mono HB2.out.size)); clear hr3 hb3)))
      refine bodyPost_ret (v := .tuple #[.agg #[.int .i64 2, .int .i64 (p : Int), .int .i64 0, .string (s.extract p q), .int .i64 (v : Int)], .nilIface]) (by simp [results, Tryz.results68, go_sem, q0, q1, q2, q3, q4, hz3]) rfl ⟨_, _, rfl, ?_, ?_, ?_⟩
      · rw [HE.out]; exact Or.inl ⟨rfl, rfl⟩
      · rw [HE.out]; rfl
      · exact (((((HB3.out.setCell (p := ⟨w.heap.size, 0, none⟩) (Nat.le_refl _) _).setCell (p := ⟨w.heap.size, 1, none⟩) (Nat.le_refl _) _).setCell (p := ⟨w.heap.size, 2, none⟩) (Nat.le_refl _) _).setCell (p := ⟨w.heap.size, 3, none⟩) (Nat.le_refl _) _).setCell (p := ⟨w.heap.size, 4, none⟩) (Nat.le_refl _) _).alloc (by simp; omega) _
    · have HE := Lib.hid (digitT_w s p q v he nx hv hw)
      have hgt : (q : Int) < ((wend s q : Nat) : Int) := by have := hwq.1 hw; omega
      generalize wend s q = z at *
      clear hPU hsome hnone he nx hL hL1 hv hwq hw HT
      go_enter Tryz.func68, Tryz.ntmps68
      go_wp2_with (first | (go_at_call 32; refine HP.out.mono ?_; rintro e w' ⟨rfl, rfl⟩) | (go_at_call 79; go_must (refine HPU.out.mono ?_; rintro e w2 ⟨rfl, hb2⟩; simp only [World.size_alloc] at hb2; have hz2 : w.heap.size < w2.heap.size := (by have := hb2.size; simp only [World.size_alloc] at this; omega); have hr2 := (hb2.block w.heap.size (by omega)).trans (heap_alloc_new w _); obtain ⟨⟨q0, q1, q2, q3, q4⟩, f0, f1, f2, f3, f4⟩ := tok_cells hr2; have HR2 := Lib.hid hr2; have HB2 := Lib.hid (hb1.trans (hb2.mono (by omega))); clear hr2 hb2; have tok2 : True := trivial)) | (go_at_call 63; have _t := tok2; go_must (refine (HA6.out _ HB2.out).mono ?_; rintro e w' ⟨rfl, rfl⟩)) | (go_at_call 63; go_must (refine HA.out.mono ?_; rintro e w' ⟨rfl, rfl⟩)) | (go_at_call 30; go_must (refine (HF.out _ _ _).mono ?_; rintro e w' ⟨rfl, rfl⟩)))
      refine bodyPost_ret (v := .tuple #[.agg #[.int .i64 0, .int .i64 0, .int .i64 0, .string ⟨#[]⟩, .int .i64 0], .iface 68 (.pointer (some ⟨w2.heap.size, 0, none⟩))]) (by simp [results, Tryz.results68, go_sem, q0, q1, q2, q3, q4, hz2]) rfl ⟨_, _, rfl, ?_, ?_, ?_⟩
      · rw [HE.out]
        refine Or.inr ⟨Nat.succ_ne_zero 6, w2.heap.size, by omega, rfl, ?_⟩
        exact alloc_at _ _ _ (by simp)
      · rw [HE.out]; rfl
      · exact (((((HB2.out.setCell (p := ⟨w.heap.size, 0, none⟩) (Nat.le_refl _) _).setCell (p := ⟨w.heap.size, 1, none⟩) (Nat.le_refl _) _).setCell (p := ⟨w.heap.size, 2, none⟩) (Nat.le_refl _) _).setCell (p := ⟨w.heap.size, 3, none⟩) (Nat.le_refl _) _).setCell (p := ⟨w.heap.size, 4, none⟩) (Nat.le_refl _) _).alloc (by simp; omega) _
set_option maxRecDepth 100000 in
set_option maxHeartbeats 1000000 in
theorem numberAt_hex (s : ByteArray) (p : Nat) (w : World) (hL : LaidL w) (hs : s.size ≤ 70368744177664) (hx : isX s p = true) :
    Calls Tryz.prog 68 #[.string s, .int .i64 (p : Int)] w (TokAns (digitT s p) w) := by
  have hb1 : Below w.heap.size w (w.alloc (.cells #[.int .i64 0, .int .i64 0, .int .i64 0, .string ⟨#[]⟩, .int .i64 0] 38)) := (Below.refl _ _).alloc (Nat.le_refl _) _
  have hL1 : LaidL (w.alloc (.cells #[.int .i64 0, .int .i64 0, .int .i64 0, .string ⟨#[]⟩, .int .i64 0] 38)) := hL.below hb1 hL.lt
  have hlt := hL.lt
  have HP := Lib.hid (by have := Tryz.strings_HasPrefix (s.extract p s.size) ⟨#[48, 120]⟩ (w.alloc (.cells #[.int .i64 0, .int .i64 0, .int .i64 0, .string ⟨#[]⟩, .int .i64 0] 38)); rw [pre_0x, hx] at this; exact this)
  have HF := Lib.hid fault_any
  have hxp : p + 2 ≤ s.size := by
    have h := hx
    simp only [isX, Bool.and_eq_true, decide_eq_true_eq] at h
    omega
  have hne : numE s p = numS s ((16 : Nat) : Int) (p + 2) 0 := by unfold numE; rw [if_pos hx]; rfl
  obtain ⟨he, hsome, hnone⟩ := numE_pu s p 16 8 (p + 2) dig16 (by omega) hne hxp
  have hq1 := span_ge (ofK 8) s (p + 2)
  have hq2 := span_le (ofK 8) s (p + 2) (by omega)
  have hin := span_in (ofK 8) s (p + 2)
  have HA := Lib.hid (behindAll_8 s (p + 2) _ hL1.mks hs (by omega))
  obtain ⟨q, hq⟩ : ∃ q, spanS (ofK 8) s (p + 2) = q := ⟨_, rfl⟩
  rw [hq] at hq1 hq2 he hsome hnone hin HA
  clear hq hne
  rw [show ((p + 2 : Nat) : Int) = (p : Int) + 2 from by omega] at HA
  have HA6 := Lib.hid (fun w2 (h2 : Below w.heap.size w w2) => by have := behindAll_6 s q w2 (hL.below h2 hlt).mks hs hq2; rw [span6_wend] at this; exact this)
  have HT := Lib.hid (fun w => tokenOf_any 2 s p q hs (by omega) hq2 w)
  by_cases hemp : q = p + 2
  · have HE := Lib.hid (digitT_x s p hx (by rw [he]; exact hemp))
    have kq : ((q : Int) == (p : Int) + 2) = true := by simp; omega
    clear hsome hnone hin he
    subst hemp
    rw [show ((p + 2 : Nat) : Int) = (p : Int) + 2 from by omega] at HA kq
    clear hL hL1 HA6 HT hq1 hq2 hx
    go_enter Tryz.func68, Tryz.ntmps68
    go_wp2_with (first | (go_at_call 32; refine HP.out.mono ?_; rintro e w' ⟨rfl, rfl⟩) | (go_at_call 63; refine HA.out.mono ?_; rintro e w' ⟨rfl, rfl⟩) | (go_at_call 30; refine (HF.out _ _ _).mono ?_; rintro e w' ⟨rfl, rfl⟩))
    refine bodyPost_ret (v := .tuple #[.agg #[.int .i64 0, .int .i64 0, .int .i64 0, .string ⟨#[]⟩, .int .i64 0], .iface 68 (.pointer (some ⟨w.heap.size + 1, 0, none⟩))]) (by simp [results, Tryz.results68, go_sem]) rfl ⟨_, _, rfl, ?_, ?_, ?_⟩
    · rw [HE.out]
      refine Or.inr ⟨Nat.succ_ne_zero 6, w.heap.size + 1, by omega, rfl, ?_⟩
      exact heap_alloc2_new _ _ _
    · rw [HE.out]; rfl
    · exact ((Below.refl _ _).alloc (Nat.le_refl _) _).alloc (by simp) _
  · have hts : (s.extract (p + 2) q).size = q - (p + 2) := size_extract_of s (p + 2) q (by omega) hq2
    have hPU := pu16 (s.extract (p + 2) q) (by omega) (by omega) (fun i hi => by rw [bAt_extract s (p + 2) q i hq2 (by omega)]; exact hin (p + 2 + i) (by omega) (by omega)) _ hL1.er
    rw [hts] at hPU
    have kq : ((q : Int) == (p : Int) + 2) = false := by simp; omega
    have nx : ¬ (isX s p = true ∧ q = p + 2) := fun h => hemp h.2
    have kle : (p : Int) + 2 ≤ (q : Int) := by omega
    have kle2 : (q : Int) ≤ (s.size : Int) := by omega
    have ktn : ((p : Int) + 2).toNat = p + 2 := by omega
    obtain ⟨r, hr⟩ : ∃ r, puS (s.extract (p + 2) q) 16 0 (q - (p + 2)) 0 = r := ⟨_, rfl⟩
    rw [hr] at hsome hnone hPU
    clear hr hin hts hemp hx
    cases r with
    | none =>
      have HE := Lib.hid (digitT_n s p q he nx (hnone rfl))
      have HPU := Lib.hid hPU
      unfold PuAns at HPU
      clear hPU hsome hnone he nx hL hL1 HT HA6
      go_enter Tryz.func68, Tryz.ntmps68
      go_wp2_with (first | (go_at_call 32; refine HP.out.mono ?_; rintro e w' ⟨rfl, rfl⟩) | (go_at_call 79; go_must (refine HPU.out.mono ?_; rintro e w2 ⟨x, N, rfl, hb2⟩; simp only [World.size_alloc] at hb2; have hz2 : w.heap.size < w2.heap.size := (by have := hb2.size; simp only [World.size_alloc] at this; omega); have hr2 := (hb2.block w.heap.size (by omega)).trans (heap_alloc_new w _); obtain ⟨⟨q0, q1, q2, q3, q4⟩, f0, f1, f2, f3, f4⟩ := tok_cells hr2; have HR2 := Lib.hid hr2; have HB2 := Lib.hid (hb1.trans (hb2.mono (by omega))); clear hr2 hb2; have tok2 : True := trivial)) | (go_at_call 63; go_must (refine HA.out.mono ?_; rintro e w' ⟨rfl, rfl⟩)) | (go_at_call 30; go_must (refine (HF.out _ _ _).mono ?_; rintro e w' ⟨rfl, rfl⟩)))
      refine bodyPost_ret (v := .tuple #[.agg #[.int .i64 0, .int .i64 0, .int .i64 0, .string ⟨#[]⟩, .int .i64 0], .iface 68 (.pointer (some ⟨w2.heap.size, 0, none⟩))]) (by simp [results, Tryz.results68, go_sem, q0, q1, q2, q3, q4, hz2]) rfl ⟨_, _, rfl, ?_, ?_, ?_⟩
      · rw [HE.out]
        refine Or.inr ⟨Nat.succ_ne_zero 9, w2.heap.size, by omega, rfl, ?_⟩
        exact alloc_at _ _ _ (by simp)
      · rw [HE.out]; rfl
      · exact (((((HB2.out.setCell (p := ⟨w.heap.size, 0, none⟩) (Nat.le_refl _) _).setCell (p := ⟨w.heap.size, 1, none⟩) (Nat.le_refl _) _).setCell (p := ⟨w.heap.size, 2, none⟩) (Nat.le_refl _) _).setCell (p := ⟨w.heap.size, 3, none⟩) (Nat.le_refl _) _).setCell (p := ⟨w.heap.size, 4, none⟩) (Nat.le_refl _) _).alloc (by simp; omega) _
    | some v =>
      have hv := hsome v rfl
      have HPU := Lib.hid hPU
      unfold PuAns at HPU
      have hwq := isW_wend s q
      have hv2 : (v : Int) ≤ 4294967295 := by omega
      cases hw : isW s q
      · have HE := Lib.hid (digitT_t s p q v he nx hv hw)
        rw [hwq.2 hw] at HA6
        clear hPU hsome hnone he nx hL hL1 hv hwq hw
        go_enter Tryz.func68, Tryz.ntmps68
        go_wp2_with (first | (go_at_call 32; refine HP.out.mono ?_; rintro e w' ⟨rfl, rfl⟩) | (go_at_call 79; go_must (refine HPU.out.mono ?_; rintro e w2 ⟨rfl, hb2⟩; simp only [World.size_alloc] at hb2; have hz2 : w.heap.size < w2.heap.size := (by have := hb2.size; simp only [World.size_alloc] at this; omega); have hr2 := (hb2.block w.heap.size (by omega)).trans (heap_alloc_new w _); obtain ⟨⟨q0, q1, q2, q3, q4⟩, f0, f1, f2, f3, f4⟩ := tok_cells hr2; have HR2 := Lib.hid hr2; have HB2 := Lib.hid (hb1.trans (hb2.mono (by omega))); clear hr2 hb2; have tok2 : True := trivial)) | (go_at_call 63; have _t := tok2; go_must (refine (HA6.out _ HB2.out).mono ?_; rintro e w' ⟨rfl, rfl⟩)) | (go_at_call 63; go_must (refine HA.out.mono ?_; rintro e w' ⟨rfl, rfl⟩)) | (go_at_call 30; go_must (refine (HF.out _ _ _).mono ?_; rintro e w' ⟨rfl, rfl⟩)) | (go_at_call 65; go_must (refine (HT.out _).mono ?_; rintro e w3 ⟨rfl, hb3⟩; have hz3 : w.heap.size < w3.heap.size := (by have := hb3.size; omega); have hr3 := (hb3.block w.heap.size (by omega)).trans HR2.out; clear q0 q1 q2 q3 q4 f0 f1 f2 f3 f4; obtain ⟨⟨q0, q1, q2, q3, q4⟩, f0, f1, f2, f3, f4⟩ := tok_cells hr3; have HB3 := Lib.hid (HB2.out.trans (hb3.mono HB2.out.size)); clear hr3 hb3)))
        refine bodyPost_ret (v := .tuple #[.agg #[.int .i64 2, .int .i64 (p : Int), .int .i64 0, .string (s.extract p q), .int .i64 (v : Int)], .nilIface]) (by simp [results, Tryz.results68, go_sem, q0, q1, q2, q3, q4, hz3]) rfl ⟨_, _, rfl, ?_, ?_, ?_⟩
        · rw [HE.out]; exact Or.inl ⟨rfl, rfl⟩
        · rw [HE.out]; rfl
        · exact (((((HB3.out.setCell (p := ⟨w.heap.size, 0, none⟩) (Nat.le_refl _) _).setCell (p := ⟨w.heap.size, 1, none⟩) (Nat.le_refl _) _).setCell (p := ⟨w.heap.size, 2, none⟩) (Nat.le_refl _) _).setCell (p := ⟨w.heap.size, 3, none⟩) (Nat.le_refl _) _).setCell (p := ⟨w.heap.size, 4, none⟩) (Nat.le_refl _) _).alloc (by simp; omega) _
      · have HE := Lib.hid (digitT_w s p q v he nx hv hw)
        have hgt : (q : Int) < ((wend s q : Nat) : Int) := by have := hwq.1 hw; omega
        generalize wend s q = z at *
        clear hPU hsome hnone he nx hL hL1 hv hwq hw HT
        go_enter Tryz.func68, Tryz.ntmps68
        go_wp2_with (first | (go_at_call 32; refine HP.out.mono ?_; rintro e w' ⟨rfl, rfl⟩) | (go_at_call 79; go_must (refine HPU.out.mono ?_; rintro e w2 ⟨rfl, hb2⟩; simp only [World.size_alloc] at hb2; have hz2 : w.heap.size < w2.heap.size := (by have := hb2.size; simp only [World.size_alloc] at this; omega); have hr2 := (hb2.block w.heap.size (by omega)).trans (heap_alloc_new w _); obtain ⟨⟨q0, q1, q2, q3, q4⟩, f0, f1, f2, f3, f4⟩ := tok_cells hr2; have HR2 := Lib.hid hr2; have HB2 := Lib.hid (hb1.trans (hb2.mono (by omega))); clear hr2 hb2; have tok2 : True := trivial)) | (go_at_call 63; have _t := tok2; go_must (refine (HA6.out _ HB2.out).mono ?_; rintro e w' ⟨rfl, rfl⟩)) | (go_at_call 63; go_must (refine HA.out.mono ?_; rintro e w' ⟨rfl, rfl⟩)) | (go_at_call 30; go_must (refine (HF.out _ _ _).mono ?_; rintro e w' ⟨rfl, rfl⟩)))
        refine bodyPost_ret (v := .tuple #[.agg #[.int .i64 0, .int .i64 0, .int .i64 0, .string ⟨#[]⟩, .int .i64 0], .iface 68 (.pointer (some ⟨w2.heap.size, 0, none⟩))]) (by simp [results, Tryz.results68, go_sem, q0, q1, q2, q3, q4, hz2]) rfl ⟨_, _, rfl, ?_, ?_, ?_⟩
        · rw [HE.out]
          refine Or.inr ⟨Nat.succ_ne_zero 6, w2.heap.size, by omega, rfl, ?_⟩
          exact alloc_at _ _ _ (by simp)
        · rw [HE.out]; rfl
        · exact (((((HB2.out.setCell (p := ⟨w.heap.size, 0, none⟩) (Nat.le_refl _) _).setCell (p := ⟨w.heap.size, 1, none⟩) (Nat.le_refl _) _).setCell (p := ⟨w.heap.size, 2, none⟩) (Nat.le_refl _) _).setCell (p := ⟨w.heap.size, 3, none⟩) (Nat.le_refl _) _).setCell (p := ⟨w.heap.size, 4, none⟩) (Nat.le_refl _) _).alloc (by simp; omega) _
end Go.Proofs.YtmebcenjghagoaaGreatDoor
