/-
  TimerKnown's walk, if the program's functions are what they must be: true. Made by wip/gentimerknown.py.
-/
import Derived.Test.YtgibindoblhkeaaWorks
import Derived.Test.YtgibindoblhkeaaPer
namespace Go.Proofs.Ytgibindoblhkeaa
open Go.RowKit
set_option linter.unusedVariables false
set_option maxHeartbeats 4000000 in
set_option maxRecDepth 100000 in
theorem known_walk (H : TimerOk) (w : World) : Calls Try.prog 5 #[] w fun e w' => e = .returned (.bool true) ∧ Below w.heap.size w w' := by
  have K1 : Hid (∀ W : World, Calls Try.prog 11 #[tv ⟨65535, 0, 1⟩] W fun e w' => e = .returned (.tuple #[tv ⟨0, 0, 0⟩, .bool true]) ∧ Below W.heap.size W w') := Lib.hid (fun W => (H.tick ⟨65535, 0, 1⟩  W ⟨by decide, by decide, by decide⟩ ).mono (fun e w' h => ⟨h.1.trans (by kernel_rfl), h.2⟩))
  have K2 : Hid (∀ W : World, Calls Try.prog 11 #[tv ⟨65535, 9, 7⟩] W fun e w' => e = .returned (.tuple #[tv ⟨0, 9, 7⟩, .bool false]) ∧ Below W.heap.size W w') := Lib.hid (fun W => (H.tick ⟨65535, 9, 7⟩  W ⟨by decide, by decide, by decide⟩ ).mono (fun e w' h => ⟨h.1.trans (by kernel_rfl), h.2⟩))
  have K3 : Hid (∀ W : World, Calls Try.prog 11 #[tv ⟨5, 6, 2⟩] W fun e w' => e = .returned (.tuple #[tv ⟨5, 6, 2⟩, .bool false]) ∧ Below W.heap.size W w') := Lib.hid (fun W => (H.tick ⟨5, 6, 2⟩  W ⟨by decide, by decide, by decide⟩ ).mono (fun e w' h => ⟨h.1.trans (by kernel_rfl), h.2⟩))
  have K4 : Hid (∀ W : World, Calls Try.prog 13 #[tv ⟨0, 1, 3⟩, .int .i64 (-5)] W fun e w' => e = .returned (.tuple #[tv ⟨0, 1, 3⟩, .int .i64 0]) ∧ Below W.heap.size W w') := Lib.hid (fun W => (H.ticks ⟨0, 1, 3⟩ (-5) W ⟨by decide, by decide, by decide⟩ (by decide) (by decide)).mono (fun e w' h => ⟨h.1.trans (by kernel_rfl), h.2⟩))
  have K5 : Hid (∀ W : World, Calls Try.prog 13 #[tv ⟨0, 0, 3⟩, .int .i64 196615] W fun e w' => e = .returned (.tuple #[tv ⟨7, 0, 3⟩, .int .i64 3]) ∧ Below W.heap.size W w') := Lib.hid (fun W => by
    have h := H.ticks ⟨0, 0, 3⟩ 196615 W ⟨by decide, by decide, by decide⟩ (by decide) (by decide)
    obtain ⟨e1, e2⟩ := ticks_again (t := ⟨0, 0, 3⟩) ⟨by decide, by decide, by decide⟩ rfl rfl 196615 (by decide)
    rw [show (196615 : Int).toNat = 196615 from rfl, e1, e2] at h
    exact h.mono (fun e w' h => ⟨h.1.trans (by kernel_rfl), h.2⟩))
  have K6 : Hid (∀ W : World, Calls Try.prog 11 #[tv ⟨1, 2, 65533⟩] W fun e w' => e = .returned (.tuple #[tv ⟨0, 2, 65532⟩, .bool true]) ∧ Below W.heap.size W w') := Lib.hid (fun W => (H.tick ⟨1, 2, 65533⟩  W ⟨by decide, by decide, by decide⟩ ).mono (fun e w' h => ⟨h.1.trans (by kernel_rfl), h.2⟩))
  have K7 : Hid (∀ W : World, Calls Try.prog 7 #[tv ⟨0, 0, 2⟩] W fun e w' => e = .returned (.int .i64 0) ∧ Below W.heap.size W w') := Lib.hid (fun W => (H.next ⟨0, 0, 2⟩  W ⟨by decide, by decide, by decide⟩ ).mono (fun e w' h => ⟨h.1.trans (by kernel_rfl), h.2⟩))
  have K8 : Hid (∀ W : World, Calls Try.prog 7 #[tv ⟨0, 0, 1⟩] W fun e w' => e = .returned (.int .i64 65536) ∧ Below W.heap.size W w') := Lib.hid (fun W => (H.next ⟨0, 0, 1⟩  W ⟨by decide, by decide, by decide⟩ ).mono (fun e w' h => ⟨h.1.trans (by kernel_rfl), h.2⟩))
  have K9 : Hid (∀ W : World, Calls Try.prog 9 #[tv ⟨7, 0, 3⟩, .int .i64 3, .int .i32 9] W fun e w' => e = .returned (tv ⟨7, 0, 3⟩) ∧ Below W.heap.size W w') := Lib.hid (fun W => (H.write ⟨7, 0, 3⟩ 3 9 W ⟨by decide, by decide, by decide⟩ (by decide) (by decide) (by decide) (by decide)).mono (fun e w' h => ⟨h.1.trans (by kernel_rfl), h.2⟩))
  have K10 : Hid (∀ W : World, Calls Try.prog 9 #[tv ⟨7, 0, 3⟩, .int .i64 (-1), .int .i32 9] W fun e w' => e = .returned (tv ⟨7, 0, 3⟩) ∧ Below W.heap.size W w') := Lib.hid (fun W => (H.write ⟨7, 0, 3⟩ (-1) 9 W ⟨by decide, by decide, by decide⟩ (by decide) (by decide) (by decide) (by decide)).mono (fun e w' h => ⟨h.1.trans (by kernel_rfl), h.2⟩))
  have K11 : Hid (∀ W : World, Calls Try.prog 15 #[tv ⟨7, 0, 3⟩, .int .i64 3] W fun e w' => e = .returned (.int .i32 0) ∧ Below W.heap.size W w') := Lib.hid (fun W => (H.peek ⟨7, 0, 3⟩ 3 W ⟨by decide, by decide, by decide⟩ (by decide) (by decide)).mono (fun e w' h => ⟨h.1.trans (by kernel_rfl), h.2⟩))
  have K12 : Hid (∀ W : World, Calls Try.prog 9 #[tv ⟨7, 0, 3⟩, .int .i64 0, .int .i32 (-1)] W fun e w' => e = .returned (tv ⟨65535, 0, 3⟩) ∧ Below W.heap.size W w') := Lib.hid (fun W => (H.write ⟨7, 0, 3⟩ 0 (-1) W ⟨by decide, by decide, by decide⟩ (by decide) (by decide) (by decide) (by decide)).mono (fun e w' h => ⟨h.1.trans (by kernel_rfl), h.2⟩))
  have K13 : Hid (∀ W : World, Calls Try.prog 15 #[tv ⟨65535, 0, 3⟩, .int .i64 0] W fun e w' => e = .returned (.int .i32 65535) ∧ Below W.heap.size W w') := Lib.hid (fun W => (H.peek ⟨65535, 0, 3⟩ 0 W ⟨by decide, by decide, by decide⟩ (by decide) (by decide)).mono (fun e w' h => ⟨h.1.trans (by kernel_rfl), h.2⟩))
  have KW := Lib.hid (works_any H)
  have BB_w : Hid (Below w.heap.size w w) := Lib.hid (Below.refl _ _)
  go_enter Try.func5, Try.ntmps5
  go_upto_region 7 with (first
      | ((with_reducible show wpList _ _ _ (⟨none, .store 25 (.tmp 11) (.tmp 41), _, _, _, _⟩ :: _) _ _); refine wpList_store_t  rfl 25 _ _ rfl (wb.heap.size) (by exact rfl) (by exact rfl) (by kernel_rfl) 25 (show TRow _ _ _ ⟨0, 0, 0⟩ from alloc_at _ _) ?_; intro wz HN HO HB
         have RA_wz : Hid (TRow wz (w1.heap.size) 25 (⟨0, 0, 0⟩)) := Lib.hid (TRow.other (TRow.below RA_wb.out ((Below.refl _ _).alloc (Nat.le_refl _) _) RA_wb.out.lt) HO.out (Nat.ne_of_lt RA_wb.out.lt))
         have RB_wz : Hid (TRow wz (w3.heap.size) 25 (⟨0, 9, 7⟩)) := Lib.hid (TRow.other (TRow.below RB_wb.out ((Below.refl _ _).alloc (Nat.le_refl _) _) RB_wb.out.lt) HO.out (Nat.ne_of_lt RB_wb.out.lt))
         have RC_wz : Hid (TRow wz (w5.heap.size) 25 (⟨5, 6, 2⟩)) := Lib.hid (TRow.other (TRow.below RC_wb.out ((Below.refl _ _).alloc (Nat.le_refl _) _) RC_wb.out.lt) HO.out (Nat.ne_of_lt RC_wb.out.lt))
         have RD_wz : Hid (TRow wz (w7.heap.size) 25 (⟨0, 1, 3⟩)) := Lib.hid (TRow.other (TRow.below RD_wb.out ((Below.refl _ _).alloc (Nat.le_refl _) _) RD_wb.out.lt) HO.out (Nat.ne_of_lt RD_wb.out.lt))
         have RE_wz : Hid (TRow wz (w9.heap.size) 25 (⟨7, 0, 3⟩)) := Lib.hid (TRow.other (TRow.below RE_wb.out ((Below.refl _ _).alloc (Nat.le_refl _) _) RE_wb.out.lt) HO.out (Nat.ne_of_lt RE_wb.out.lt))
         have RF_wz : Hid (TRow wz wb.heap.size 25 (⟨0, 2, 65532⟩)) := HN
         have BB_wz : Hid (Below w.heap.size w wz) := Lib.hid ((BB_wb.out.alloc BB_wb.out.size _).trans (HB.out.mono BB_wb.out.size))
         clear HO HB HN RA_wb RB_wb RC_wb RD_wb RE_wb BB_wb)
      | (go_at_call 11; have hc := BB_wa; clear hc; refine (K6.out _).mono ?_; rintro e wb ⟨rfl, hB⟩
         have RA_wb : Hid (TRow wb (w1.heap.size) 25 (⟨0, 0, 0⟩)) := Lib.hid (TRow.below RA_wa.out hB RA_wa.out.lt)
         have RB_wb : Hid (TRow wb (w3.heap.size) 25 (⟨0, 9, 7⟩)) := Lib.hid (TRow.below RB_wa.out hB RB_wa.out.lt)
         have RC_wb : Hid (TRow wb (w5.heap.size) 25 (⟨5, 6, 2⟩)) := Lib.hid (TRow.below RC_wa.out hB RC_wa.out.lt)
         have RD_wb : Hid (TRow wb (w7.heap.size) 25 (⟨0, 1, 3⟩)) := Lib.hid (TRow.below RD_wa.out hB RD_wa.out.lt)
         have RE_wb : Hid (TRow wb (w9.heap.size) 25 (⟨7, 0, 3⟩)) := Lib.hid (TRow.below RE_wa.out hB RE_wa.out.lt)
         have BB_wb : Hid (Below w.heap.size w wb) := Lib.hid (BB_wa.out.trans (hB.mono BB_wa.out.size))
         clear hB RA_wa RB_wa RC_wa RD_wa RE_wa BB_wa)
      | ((with_reducible show wpList _ _ _ (⟨none, .store 25 (.tmp 9) (.tmp 36), _, _, _, _⟩ :: _) _ _); refine wpList_store_t  rfl 25 _ _ rfl (w9.heap.size) (by exact rfl) (by exact rfl) (by kernel_rfl) 25 (show TRow _ _ _ ⟨0, 0, 0⟩ from alloc_at _ _) ?_; intro wa HN HO HB
         have RA_wa : Hid (TRow wa (w1.heap.size) 25 (⟨0, 0, 0⟩)) := Lib.hid (TRow.other (TRow.below RA_w9.out ((Below.refl _ _).alloc (Nat.le_refl _) _) RA_w9.out.lt) HO.out (Nat.ne_of_lt RA_w9.out.lt))
         have RB_wa : Hid (TRow wa (w3.heap.size) 25 (⟨0, 9, 7⟩)) := Lib.hid (TRow.other (TRow.below RB_w9.out ((Below.refl _ _).alloc (Nat.le_refl _) _) RB_w9.out.lt) HO.out (Nat.ne_of_lt RB_w9.out.lt))
         have RC_wa : Hid (TRow wa (w5.heap.size) 25 (⟨5, 6, 2⟩)) := Lib.hid (TRow.other (TRow.below RC_w9.out ((Below.refl _ _).alloc (Nat.le_refl _) _) RC_w9.out.lt) HO.out (Nat.ne_of_lt RC_w9.out.lt))
         have RD_wa : Hid (TRow wa (w7.heap.size) 25 (⟨0, 1, 3⟩)) := Lib.hid (TRow.other (TRow.below RD_w9.out ((Below.refl _ _).alloc (Nat.le_refl _) _) RD_w9.out.lt) HO.out (Nat.ne_of_lt RD_w9.out.lt))
         have RE_wa : Hid (TRow wa w9.heap.size 25 (⟨7, 0, 3⟩)) := HN
         have BB_wa : Hid (Below w.heap.size w wa) := Lib.hid ((BB_w9.out.alloc BB_w9.out.size _).trans (HB.out.mono BB_w9.out.size))
         clear HO HB HN RA_w9 RB_w9 RC_w9 RD_w9 BB_w9)
      | (go_at_call 13; have hc := BB_w8; clear hc; refine (K5.out _).mono ?_; rintro e w9 ⟨rfl, hB⟩
         have RA_w9 : Hid (TRow w9 (w1.heap.size) 25 (⟨0, 0, 0⟩)) := Lib.hid (TRow.below RA_w8.out hB RA_w8.out.lt)
         have RB_w9 : Hid (TRow w9 (w3.heap.size) 25 (⟨0, 9, 7⟩)) := Lib.hid (TRow.below RB_w8.out hB RB_w8.out.lt)
         have RC_w9 : Hid (TRow w9 (w5.heap.size) 25 (⟨5, 6, 2⟩)) := Lib.hid (TRow.below RC_w8.out hB RC_w8.out.lt)
         have RD_w9 : Hid (TRow w9 (w7.heap.size) 25 (⟨0, 1, 3⟩)) := Lib.hid (TRow.below RD_w8.out hB RD_w8.out.lt)
         have BB_w9 : Hid (Below w.heap.size w w9) := Lib.hid (BB_w8.out.trans (hB.mono BB_w8.out.size))
         clear hB RA_w8 RB_w8 RC_w8 RD_w8 BB_w8)
      | ((with_reducible show wpList _ _ _ (⟨none, .store 25 (.tmp 7) (.tmp 31), _, _, _, _⟩ :: _) _ _); refine wpList_store_t  rfl 25 _ _ rfl (w7.heap.size) (by exact rfl) (by exact rfl) (by kernel_rfl) 25 (show TRow _ _ _ ⟨0, 0, 0⟩ from alloc_at _ _) ?_; intro w8 HN HO HB
         have RA_w8 : Hid (TRow w8 (w1.heap.size) 25 (⟨0, 0, 0⟩)) := Lib.hid (TRow.other (TRow.below RA_w7.out ((Below.refl _ _).alloc (Nat.le_refl _) _) RA_w7.out.lt) HO.out (Nat.ne_of_lt RA_w7.out.lt))
         have RB_w8 : Hid (TRow w8 (w3.heap.size) 25 (⟨0, 9, 7⟩)) := Lib.hid (TRow.other (TRow.below RB_w7.out ((Below.refl _ _).alloc (Nat.le_refl _) _) RB_w7.out.lt) HO.out (Nat.ne_of_lt RB_w7.out.lt))
         have RC_w8 : Hid (TRow w8 (w5.heap.size) 25 (⟨5, 6, 2⟩)) := Lib.hid (TRow.other (TRow.below RC_w7.out ((Below.refl _ _).alloc (Nat.le_refl _) _) RC_w7.out.lt) HO.out (Nat.ne_of_lt RC_w7.out.lt))
         have RD_w8 : Hid (TRow w8 w7.heap.size 25 (⟨0, 1, 3⟩)) := HN
         have BB_w8 : Hid (Below w.heap.size w w8) := Lib.hid ((BB_w7.out.alloc BB_w7.out.size _).trans (HB.out.mono BB_w7.out.size))
         clear HO HB HN RA_w7 RB_w7 RC_w7 BB_w7)
      | (go_at_call 13; have hc := BB_w6; clear hc; refine (K4.out _).mono ?_; rintro e w7 ⟨rfl, hB⟩
         have RA_w7 : Hid (TRow w7 (w1.heap.size) 25 (⟨0, 0, 0⟩)) := Lib.hid (TRow.below RA_w6.out hB RA_w6.out.lt)
         have RB_w7 : Hid (TRow w7 (w3.heap.size) 25 (⟨0, 9, 7⟩)) := Lib.hid (TRow.below RB_w6.out hB RB_w6.out.lt)
         have RC_w7 : Hid (TRow w7 (w5.heap.size) 25 (⟨5, 6, 2⟩)) := Lib.hid (TRow.below RC_w6.out hB RC_w6.out.lt)
         have BB_w7 : Hid (Below w.heap.size w w7) := Lib.hid (BB_w6.out.trans (hB.mono BB_w6.out.size))
         clear hB RA_w6 RB_w6 RC_w6 BB_w6)
      | ((with_reducible show wpList _ _ _ (⟨none, .store 25 (.tmp 5) (.tmp 26), _, _, _, _⟩ :: _) _ _); refine wpList_store_t  rfl 25 _ _ rfl (w5.heap.size) (by exact rfl) (by exact rfl) (by kernel_rfl) 25 (show TRow _ _ _ ⟨0, 0, 0⟩ from alloc_at _ _) ?_; intro w6 HN HO HB
         have RA_w6 : Hid (TRow w6 (w1.heap.size) 25 (⟨0, 0, 0⟩)) := Lib.hid (TRow.other (TRow.below RA_w5.out ((Below.refl _ _).alloc (Nat.le_refl _) _) RA_w5.out.lt) HO.out (Nat.ne_of_lt RA_w5.out.lt))
         have RB_w6 : Hid (TRow w6 (w3.heap.size) 25 (⟨0, 9, 7⟩)) := Lib.hid (TRow.other (TRow.below RB_w5.out ((Below.refl _ _).alloc (Nat.le_refl _) _) RB_w5.out.lt) HO.out (Nat.ne_of_lt RB_w5.out.lt))
         have RC_w6 : Hid (TRow w6 w5.heap.size 25 (⟨5, 6, 2⟩)) := HN
         have BB_w6 : Hid (Below w.heap.size w w6) := Lib.hid ((BB_w5.out.alloc BB_w5.out.size _).trans (HB.out.mono BB_w5.out.size))
         clear HO HB HN RA_w5 RB_w5 BB_w5)
      | (go_at_call 11; have hc := BB_w4; clear hc; refine (K3.out _).mono ?_; rintro e w5 ⟨rfl, hB⟩
         have RA_w5 : Hid (TRow w5 (w1.heap.size) 25 (⟨0, 0, 0⟩)) := Lib.hid (TRow.below RA_w4.out hB RA_w4.out.lt)
         have RB_w5 : Hid (TRow w5 (w3.heap.size) 25 (⟨0, 9, 7⟩)) := Lib.hid (TRow.below RB_w4.out hB RB_w4.out.lt)
         have BB_w5 : Hid (Below w.heap.size w w5) := Lib.hid (BB_w4.out.trans (hB.mono BB_w4.out.size))
         clear hB RA_w4 RB_w4 BB_w4)
      | ((with_reducible show wpList _ _ _ (⟨none, .store 25 (.tmp 3) (.tmp 21), _, _, _, _⟩ :: _) _ _); refine wpList_store_t  rfl 25 _ _ rfl (w3.heap.size) (by exact rfl) (by exact rfl) (by kernel_rfl) 25 (show TRow _ _ _ ⟨0, 0, 0⟩ from alloc_at _ _) ?_; intro w4 HN HO HB
         have RA_w4 : Hid (TRow w4 (w1.heap.size) 25 (⟨0, 0, 0⟩)) := Lib.hid (TRow.other (TRow.below RA_w3.out ((Below.refl _ _).alloc (Nat.le_refl _) _) RA_w3.out.lt) HO.out (Nat.ne_of_lt RA_w3.out.lt))
         have RB_w4 : Hid (TRow w4 w3.heap.size 25 (⟨0, 9, 7⟩)) := HN
         have BB_w4 : Hid (Below w.heap.size w w4) := Lib.hid ((BB_w3.out.alloc BB_w3.out.size _).trans (HB.out.mono BB_w3.out.size))
         clear HO HB HN RA_w3 BB_w3)
      | (go_at_call 11; have hc := BB_w2; clear hc; refine (K2.out _).mono ?_; rintro e w3 ⟨rfl, hB⟩
         have RA_w3 : Hid (TRow w3 (w1.heap.size) 25 (⟨0, 0, 0⟩)) := Lib.hid (TRow.below RA_w2.out hB RA_w2.out.lt)
         have BB_w3 : Hid (Below w.heap.size w w3) := Lib.hid (BB_w2.out.trans (hB.mono BB_w2.out.size))
         clear hB RA_w2 BB_w2)
      | ((with_reducible show wpList _ _ _ (⟨none, .store 25 (.tmp 1) (.tmp 16), _, _, _, _⟩ :: _) _ _); refine wpList_store_t  rfl 25 _ _ rfl (w1.heap.size) (by exact rfl) (by exact rfl) (by kernel_rfl) 25 (show TRow _ _ _ ⟨0, 0, 0⟩ from alloc_at _ _) ?_; intro w2 HN HO HB
         have RA_w2 : Hid (TRow w2 w1.heap.size 25 (⟨0, 0, 0⟩)) := HN
         have BB_w2 : Hid (Below w.heap.size w w2) := Lib.hid ((BB_w1.out.alloc BB_w1.out.size _).trans (HB.out.mono BB_w1.out.size))
         clear HO HB HN  BB_w1)
      | (go_at_call 11; have hc := BB_w; clear hc; refine (K1.out _).mono ?_; rintro e w1 ⟨rfl, hB⟩
         have BB_w1 : Hid (Below w.heap.size w w1) := Lib.hid (BB_w.out.trans (hB.mono BB_w.out.size))
         clear hB  BB_w))
  try simp only [List.append_eq, List.cons_append, List.nil_append]
  generalize w1.heap.size = g0 at *
  generalize w3.heap.size = g1 at *
  generalize w5.heap.size = g2 at *
  generalize w7.heap.size = g3 at *
  generalize w9.heap.size = g4 at *
  generalize wb.heap.size = g5 at *
  refine wp_region_noPanic ?_
  refine wp_region_held_drew (S := fun X => Below wz.heap.size wz X) (by kernel_rfl) ((Below.refl _ wz).drew) (fun hHeld => ?_)
  refine only_ 0 rfl (by kernel_rfl) (by rfl) (fun K hK => ?_)
  go_simp
  (with_reducible refine (KW.out _).mono ?_)
  rintro e wn ⟨rfl, hBn⟩
  go_simp
  refine hK.out _ _ (hHeld.trans (hBn.mono hHeld.size)) (fun hHeld2 => ?_)
  clear hK K hHeld
  have hHeld := hHeld2
  clear hHeld2
  try simp only [Act.put, List.setIfInBounds_toArray, List.set_cons_zero, List.set_cons_succ]
  clear hBn
  refine' take_ 1 rfl (by kernel_rfl) (by kernel_rfl) (by kernel_rfl) (fun _ _ _ h => h) (by rfl) (fun wS hSw => ?_) hHeld ?_
  rotate_left
  focus (go_simp; (try with_reducible rfl); done)
  try simp only [Act.put, List.setIfInBounds_toArray, List.set_cons_zero, List.set_cons_succ]
  refine' take_ 2 rfl (by kernel_rfl) (by kernel_rfl) (by kernel_rfl) (fun _ _ _ h => h) (by rfl) (fun wS hSw => run_load_t wS 25 _ g0 rfl _ Try.underlying25 (by kernel_rfl) 25 (RA_wz.out.below hSw RA_wz.out.lt) _ _ _ _ _) hHeld ?_
  try simp only [Act.put, List.setIfInBounds_toArray, List.set_cons_zero, List.set_cons_succ]
  refine' take_ 3 rfl (by kernel_rfl) (by kernel_rfl) (by kernel_rfl) (fun _ _ _ h => h) (by rfl) (fun wS hSw => ?_) hHeld ?_
  rotate_left
  focus ((show _ = Result.ok (Next.value (tv ⟨0, 0, 0⟩)) _); go_simp; (try rfl); done)
  try simp only [Act.put, List.setIfInBounds_toArray, List.set_cons_zero, List.set_cons_succ]
  refine' take_ 4 rfl (by kernel_rfl) (by kernel_rfl) (by kernel_rfl) (fun _ _ _ h => h) (by rfl) (fun wS hSw => ?_) hHeld ?_
  rotate_left
  focus ((go_simp; rw [guard_t]; go_simp; rw [run_eql_t]; (try go_simp); (try with_reducible rfl); done))
  try simp only [Act.put, List.setIfInBounds_toArray, List.set_cons_zero, List.set_cons_succ]
  refine' take_ 5 rfl (by kernel_rfl) (by kernel_rfl) (by kernel_rfl) (fun _ _ _ h => h) (by rfl) (fun wS hSw => ?_) hHeld ?_
  rotate_left
  focus (go_simp; (try with_reducible rfl); done)
  try simp only [Act.put, List.setIfInBounds_toArray, List.set_cons_zero, List.set_cons_succ]
  refine' take_ 6 rfl (by kernel_rfl) (by kernel_rfl) (by kernel_rfl) (fun _ _ _ h => h) (by rfl) (fun wS hSw => ?_) hHeld ?_
  rotate_left
  focus (go_simp; (try with_reducible rfl); done)
  try simp only [Act.put, List.setIfInBounds_toArray, List.set_cons_zero, List.set_cons_succ]
  refine' take_ 7 rfl (by kernel_rfl) (by kernel_rfl) (by kernel_rfl) (fun _ _ _ h => h) (by rfl) (fun wS hSw => ?_) hHeld ?_
  rotate_left
  focus (go_simp; (try with_reducible rfl); done)
  try simp only [Act.put, List.setIfInBounds_toArray, List.set_cons_zero, List.set_cons_succ]
  refine' take_ 8 rfl (by kernel_rfl) (by kernel_rfl) (by kernel_rfl) (fun _ _ _ h => h) (by rfl) (fun wS hSw => ?_) hHeld ?_
  rotate_left
  focus (go_simp; (try with_reducible rfl); done)
  try simp only [Act.put, List.setIfInBounds_toArray, List.set_cons_zero, List.set_cons_succ]
  refine' take_ 9 rfl (by kernel_rfl) (by kernel_rfl) (by kernel_rfl) (fun _ _ _ h => h) (by rfl) (fun wS hSw => ?_) hHeld ?_
  rotate_left
  focus (go_simp; (try with_reducible rfl); done)
  try simp only [Act.put, List.setIfInBounds_toArray, List.set_cons_zero, List.set_cons_succ]
  refine' take_ 10 rfl (by kernel_rfl) (by kernel_rfl) (by kernel_rfl) (fun _ _ _ h => h) (by rfl) (fun wS hSw => run_load_t wS 25 _ g1 rfl _ Try.underlying25 (by kernel_rfl) 25 (RB_wz.out.below hSw RB_wz.out.lt) _ _ _ _ _) hHeld ?_
  try simp only [Act.put, List.setIfInBounds_toArray, List.set_cons_zero, List.set_cons_succ]
  refine' take_ 11 rfl (by kernel_rfl) (by kernel_rfl) (by kernel_rfl) (fun _ _ _ h => h) (by rfl) (fun wS hSw => ?_) hHeld ?_
  rotate_left
  focus ((show _ = Result.ok (Next.value (tv ⟨0, 9, 7⟩)) _); go_simp; (try rfl); done)
  try simp only [Act.put, List.setIfInBounds_toArray, List.set_cons_zero, List.set_cons_succ]
  refine' take_ 12 rfl (by kernel_rfl) (by kernel_rfl) (by kernel_rfl) (fun _ _ _ h => h) (by rfl) (fun wS hSw => ?_) hHeld ?_
  rotate_left
  focus ((go_simp; rw [guard_t]; go_simp; rw [run_eql_t]; (try go_simp); (try with_reducible rfl); done))
  try simp only [Act.put, List.setIfInBounds_toArray, List.set_cons_zero, List.set_cons_succ]
  refine' take_ 13 rfl (by kernel_rfl) (by kernel_rfl) (by kernel_rfl) (fun _ _ _ h => h) (by rfl) (fun wS hSw => ?_) hHeld ?_
  rotate_left
  focus (go_simp; (try with_reducible rfl); done)
  try simp only [Act.put, List.setIfInBounds_toArray, List.set_cons_zero, List.set_cons_succ]
  refine' take_ 14 rfl (by kernel_rfl) (by kernel_rfl) (by kernel_rfl) (fun _ _ _ h => h) (by rfl) (fun wS hSw => ?_) hHeld ?_
  rotate_left
  focus (go_simp; (try with_reducible rfl); done)
  try simp only [Act.put, List.setIfInBounds_toArray, List.set_cons_zero, List.set_cons_succ]
  refine' take_ 15 rfl (by kernel_rfl) (by kernel_rfl) (by kernel_rfl) (fun _ _ _ h => h) (by rfl) (fun wS hSw => ?_) hHeld ?_
  rotate_left
  focus (go_simp; (try with_reducible rfl); done)
  try simp only [Act.put, List.setIfInBounds_toArray, List.set_cons_zero, List.set_cons_succ]
  refine' take_ 16 rfl (by kernel_rfl) (by kernel_rfl) (by kernel_rfl) (fun _ _ _ h => h) (by rfl) (fun wS hSw => ?_) hHeld ?_
  rotate_left
  focus (go_simp; (try with_reducible rfl); done)
  try simp only [Act.put, List.setIfInBounds_toArray, List.set_cons_zero, List.set_cons_succ]
  refine' take_ 17 rfl (by kernel_rfl) (by kernel_rfl) (by kernel_rfl) (fun _ _ _ h => h) (by rfl) (fun wS hSw => ?_) hHeld ?_
  rotate_left
  focus (go_simp; (try with_reducible rfl); done)
  try simp only [Act.put, List.setIfInBounds_toArray, List.set_cons_zero, List.set_cons_succ]
  refine' take_ 18 rfl (by kernel_rfl) (by kernel_rfl) (by kernel_rfl) (fun _ _ _ h => h) (by rfl) (fun wS hSw => ?_) hHeld ?_
  rotate_left
  focus (go_simp; (try with_reducible rfl); done)
  try simp only [Act.put, List.setIfInBounds_toArray, List.set_cons_zero, List.set_cons_succ]
  refine' take_ 19 rfl (by kernel_rfl) (by kernel_rfl) (by kernel_rfl) (fun _ _ _ h => h) (by rfl) (fun wS hSw => run_load_t wS 25 _ g2 rfl _ Try.underlying25 (by kernel_rfl) 25 (RC_wz.out.below hSw RC_wz.out.lt) _ _ _ _ _) hHeld ?_
  try simp only [Act.put, List.setIfInBounds_toArray, List.set_cons_zero, List.set_cons_succ]
  refine' take_ 20 rfl (by kernel_rfl) (by kernel_rfl) (by kernel_rfl) (fun _ _ _ h => h) (by rfl) (fun wS hSw => ?_) hHeld ?_
  rotate_left
  focus ((show _ = Result.ok (Next.value (tv ⟨5, 6, 2⟩)) _); go_simp; (try rfl); done)
  try simp only [Act.put, List.setIfInBounds_toArray, List.set_cons_zero, List.set_cons_succ]
  refine' take_ 21 rfl (by kernel_rfl) (by kernel_rfl) (by kernel_rfl) (fun _ _ _ h => h) (by rfl) (fun wS hSw => ?_) hHeld ?_
  rotate_left
  focus ((go_simp; rw [guard_t]; go_simp; rw [run_eql_t]; (try go_simp); (try with_reducible rfl); done))
  try simp only [Act.put, List.setIfInBounds_toArray, List.set_cons_zero, List.set_cons_succ]
  refine' take_ 22 rfl (by kernel_rfl) (by kernel_rfl) (by kernel_rfl) (fun _ _ _ h => h) (by rfl) (fun wS hSw => ?_) hHeld ?_
  rotate_left
  focus (go_simp; (try with_reducible rfl); done)
  try simp only [Act.put, List.setIfInBounds_toArray, List.set_cons_zero, List.set_cons_succ]
  refine' take_ 23 rfl (by kernel_rfl) (by kernel_rfl) (by kernel_rfl) (fun _ _ _ h => h) (by rfl) (fun wS hSw => ?_) hHeld ?_
  rotate_left
  focus (go_simp; (try with_reducible rfl); done)
  try simp only [Act.put, List.setIfInBounds_toArray, List.set_cons_zero, List.set_cons_succ]
  refine' take_ 24 rfl (by kernel_rfl) (by kernel_rfl) (by kernel_rfl) (fun _ _ _ h => h) (by rfl) (fun wS hSw => ?_) hHeld ?_
  rotate_left
  focus (go_simp; (try with_reducible rfl); done)
  try simp only [Act.put, List.setIfInBounds_toArray, List.set_cons_zero, List.set_cons_succ]
  refine' take_ 25 rfl (by kernel_rfl) (by kernel_rfl) (by kernel_rfl) (fun _ _ _ h => h) (by rfl) (fun wS hSw => ?_) hHeld ?_
  rotate_left
  focus (go_simp; (try with_reducible rfl); done)
  try simp only [Act.put, List.setIfInBounds_toArray, List.set_cons_zero, List.set_cons_succ]
  refine' take_ 26 rfl (by kernel_rfl) (by kernel_rfl) (by kernel_rfl) (fun _ _ _ h => h) (by rfl) (fun wS hSw => ?_) hHeld ?_
  rotate_left
  focus (go_simp; (try with_reducible rfl); done)
  try simp only [Act.put, List.setIfInBounds_toArray, List.set_cons_zero, List.set_cons_succ]
  refine' take_ 27 rfl (by kernel_rfl) (by kernel_rfl) (by kernel_rfl) (fun _ _ _ h => h) (by rfl) (fun wS hSw => ?_) hHeld ?_
  rotate_left
  focus (go_simp; (try with_reducible rfl); done)
  try simp only [Act.put, List.setIfInBounds_toArray, List.set_cons_zero, List.set_cons_succ]
  refine' take_ 28 rfl (by kernel_rfl) (by kernel_rfl) (by kernel_rfl) (fun _ _ _ h => h) (by rfl) (fun wS hSw => run_load_t wS 25 _ g3 rfl _ Try.underlying25 (by kernel_rfl) 25 (RD_wz.out.below hSw RD_wz.out.lt) _ _ _ _ _) hHeld ?_
  try simp only [Act.put, List.setIfInBounds_toArray, List.set_cons_zero, List.set_cons_succ]
  refine' take_ 29 rfl (by kernel_rfl) (by kernel_rfl) (by kernel_rfl) (fun _ _ _ h => h) (by rfl) (fun wS hSw => ?_) hHeld ?_
  rotate_left
  focus ((show _ = Result.ok (Next.value (tv ⟨0, 1, 3⟩)) _); go_simp; (try rfl); done)
  try simp only [Act.put, List.setIfInBounds_toArray, List.set_cons_zero, List.set_cons_succ]
  refine' take_ 30 rfl (by kernel_rfl) (by kernel_rfl) (by kernel_rfl) (fun _ _ _ h => h) (by rfl) (fun wS hSw => ?_) hHeld ?_
  rotate_left
  focus ((go_simp; rw [guard_t]; go_simp; rw [run_eql_t]; (try go_simp); (try with_reducible rfl); done))
  try simp only [Act.put, List.setIfInBounds_toArray, List.set_cons_zero, List.set_cons_succ]
  refine' take_ 31 rfl (by kernel_rfl) (by kernel_rfl) (by kernel_rfl) (fun _ _ _ h => h) (by rfl) (fun wS hSw => ?_) hHeld ?_
  rotate_left
  focus (go_simp; (try with_reducible rfl); done)
  try simp only [Act.put, List.setIfInBounds_toArray, List.set_cons_zero, List.set_cons_succ]
  refine' take_ 32 rfl (by kernel_rfl) (by kernel_rfl) (by kernel_rfl) (fun _ _ _ h => h) (by rfl) (fun wS hSw => ?_) hHeld ?_
  rotate_left
  focus (go_simp; (try with_reducible rfl); done)
  try simp only [Act.put, List.setIfInBounds_toArray, List.set_cons_zero, List.set_cons_succ]
  refine' take_ 33 rfl (by kernel_rfl) (by kernel_rfl) (by kernel_rfl) (fun _ _ _ h => h) (by rfl) (fun wS hSw => ?_) hHeld ?_
  rotate_left
  focus (go_simp; (try with_reducible rfl); done)
  try simp only [Act.put, List.setIfInBounds_toArray, List.set_cons_zero, List.set_cons_succ]
  refine' take_ 34 rfl (by kernel_rfl) (by kernel_rfl) (by kernel_rfl) (fun _ _ _ h => h) (by rfl) (fun wS hSw => ?_) hHeld ?_
  rotate_left
  focus (go_simp; (try with_reducible rfl); done)
  try simp only [Act.put, List.setIfInBounds_toArray, List.set_cons_zero, List.set_cons_succ]
  refine' take_ 35 rfl (by kernel_rfl) (by kernel_rfl) (by kernel_rfl) (fun _ _ _ h => h) (by rfl) (fun wS hSw => ?_) hHeld ?_
  rotate_left
  focus (go_simp; (try with_reducible rfl); done)
  try simp only [Act.put, List.setIfInBounds_toArray, List.set_cons_zero, List.set_cons_succ]
  refine' take_ 36 rfl (by kernel_rfl) (by kernel_rfl) (by kernel_rfl) (fun _ _ _ h => h) (by rfl) (fun wS hSw => ?_) hHeld ?_
  rotate_left
  focus (go_simp; (try with_reducible rfl); done)
  try simp only [Act.put, List.setIfInBounds_toArray, List.set_cons_zero, List.set_cons_succ]
  refine' take_ 37 rfl (by kernel_rfl) (by kernel_rfl) (by kernel_rfl) (fun _ _ _ h => h) (by rfl) (fun wS hSw => run_load_t wS 25 _ g4 rfl _ Try.underlying25 (by kernel_rfl) 25 (RE_wz.out.below hSw RE_wz.out.lt) _ _ _ _ _) hHeld ?_
  try simp only [Act.put, List.setIfInBounds_toArray, List.set_cons_zero, List.set_cons_succ]
  refine' take_ 38 rfl (by kernel_rfl) (by kernel_rfl) (by kernel_rfl) (fun _ _ _ h => h) (by rfl) (fun wS hSw => ?_) hHeld ?_
  rotate_left
  focus ((show _ = Result.ok (Next.value (tv ⟨7, 0, 3⟩)) _); go_simp; (try rfl); done)
  try simp only [Act.put, List.setIfInBounds_toArray, List.set_cons_zero, List.set_cons_succ]
  refine' take_ 39 rfl (by kernel_rfl) (by kernel_rfl) (by kernel_rfl) (fun _ _ _ h => h) (by rfl) (fun wS hSw => ?_) hHeld ?_
  rotate_left
  focus ((go_simp; rw [guard_t]; go_simp; rw [run_eql_t]; (try go_simp); (try with_reducible rfl); done))
  try simp only [Act.put, List.setIfInBounds_toArray, List.set_cons_zero, List.set_cons_succ]
  refine' take_ 40 rfl (by kernel_rfl) (by kernel_rfl) (by kernel_rfl) (fun _ _ _ h => h) (by rfl) (fun wS hSw => ?_) hHeld ?_
  rotate_left
  focus (go_simp; (try with_reducible rfl); done)
  try simp only [Act.put, List.setIfInBounds_toArray, List.set_cons_zero, List.set_cons_succ]
  refine' take_ 41 rfl (by kernel_rfl) (by kernel_rfl) (by kernel_rfl) (fun _ _ _ h => h) (by rfl) (fun wS hSw => ?_) hHeld ?_
  rotate_left
  focus (go_simp; (try with_reducible rfl); done)
  try simp only [Act.put, List.setIfInBounds_toArray, List.set_cons_zero, List.set_cons_succ]
  refine' take_ 42 rfl (by kernel_rfl) (by kernel_rfl) (by kernel_rfl) (fun _ _ _ h => h) (by rfl) (fun wS hSw => ?_) hHeld ?_
  rotate_left
  focus (go_simp; (try with_reducible rfl); done)
  try simp only [Act.put, List.setIfInBounds_toArray, List.set_cons_zero, List.set_cons_succ]
  refine' take_ 43 rfl (by kernel_rfl) (by kernel_rfl) (by kernel_rfl) (fun _ _ _ h => h) (by rfl) (fun wS hSw => ?_) hHeld ?_
  rotate_left
  focus (go_simp; (try with_reducible rfl); done)
  try simp only [Act.put, List.setIfInBounds_toArray, List.set_cons_zero, List.set_cons_succ]
  refine' take_ 44 rfl (by kernel_rfl) (by kernel_rfl) (by kernel_rfl) (fun _ _ _ h => h) (by rfl) (fun wS hSw => ?_) hHeld ?_
  rotate_left
  focus (go_simp; (try with_reducible rfl); done)
  try simp only [Act.put, List.setIfInBounds_toArray, List.set_cons_zero, List.set_cons_succ]
  refine' take_ 45 rfl (by kernel_rfl) (by kernel_rfl) (by kernel_rfl) (fun _ _ _ h => h) (by rfl) (fun wS hSw => ?_) hHeld ?_
  rotate_left
  focus (go_simp; (try with_reducible rfl); done)
  try simp only [Act.put, List.setIfInBounds_toArray, List.set_cons_zero, List.set_cons_succ]
  refine' take_ 46 rfl (by kernel_rfl) (by kernel_rfl) (by kernel_rfl) (fun _ _ _ h => h) (by rfl) (fun wS hSw => run_load_t wS 25 _ g5 rfl _ Try.underlying25 (by kernel_rfl) 25 (RF_wz.out.below hSw RF_wz.out.lt) _ _ _ _ _) hHeld ?_
  try simp only [Act.put, List.setIfInBounds_toArray, List.set_cons_zero, List.set_cons_succ]
  refine' take_ 47 rfl (by kernel_rfl) (by kernel_rfl) (by kernel_rfl) (fun _ _ _ h => h) (by rfl) (fun wS hSw => ?_) hHeld ?_
  rotate_left
  focus ((show _ = Result.ok (Next.value (tv ⟨0, 2, 65532⟩)) _); go_simp; (try rfl); done)
  try simp only [Act.put, List.setIfInBounds_toArray, List.set_cons_zero, List.set_cons_succ]
  refine' take_ 48 rfl (by kernel_rfl) (by kernel_rfl) (by kernel_rfl) (fun _ _ _ h => h) (by rfl) (fun wS hSw => ?_) hHeld ?_
  rotate_left
  focus ((go_simp; rw [guard_t]; go_simp; rw [run_eql_t]; (try go_simp); (try with_reducible rfl); done))
  try simp only [Act.put, List.setIfInBounds_toArray, List.set_cons_zero, List.set_cons_succ]
  refine' take_ 49 rfl (by kernel_rfl) (by kernel_rfl) (by kernel_rfl) (fun _ _ _ h => h) (by rfl) (fun wS hSw => ?_) hHeld ?_
  rotate_left
  focus (go_simp; (try with_reducible rfl); done)
  try simp only [Act.put, List.setIfInBounds_toArray, List.set_cons_zero, List.set_cons_succ]
  refine' take_ 50 rfl (by kernel_rfl) (by kernel_rfl) (by kernel_rfl) (fun _ _ _ h => h) (by rfl) (fun wS hSw => ?_) hHeld ?_
  rotate_left
  focus (go_simp; (try with_reducible rfl); done)
  try simp only [Act.put, List.setIfInBounds_toArray, List.set_cons_zero, List.set_cons_succ]
  refine' take_ 51 rfl (by kernel_rfl) (by kernel_rfl) (by kernel_rfl) (fun _ _ _ h => h) (by rfl) (fun wS hSw => ?_) hHeld ?_
  rotate_left
  focus (go_simp; (try with_reducible rfl); done)
  try simp only [Act.put, List.setIfInBounds_toArray, List.set_cons_zero, List.set_cons_succ]
  refine' take_ 52 rfl (by kernel_rfl) (by kernel_rfl) (by kernel_rfl) (fun _ _ _ h => h) (by rfl) (fun wS hSw => ?_) hHeld ?_
  rotate_left
  focus (go_simp; (try with_reducible rfl); done)
  try simp only [Act.put, List.setIfInBounds_toArray, List.set_cons_zero, List.set_cons_succ]
  refine' take_ 53 rfl (by kernel_rfl) (by kernel_rfl) (by kernel_rfl) (fun _ _ _ h => h) (by rfl) (fun wS hSw => ?_) hHeld ?_
  rotate_left
  focus (go_simp; (try with_reducible rfl); done)
  try simp only [Act.put, List.setIfInBounds_toArray, List.set_cons_zero, List.set_cons_succ]
  refine' take_ 54 rfl (by kernel_rfl) (by kernel_rfl) (by kernel_rfl) (fun _ _ _ h => h) (by rfl) (fun wS hSw => ?_) hHeld ?_
  rotate_left
  focus ((show _ = Result.ok (Next.value (tv ⟨0, 0, 2⟩)) _); go_simp; (try rfl); done)
  try simp only [Act.put, List.setIfInBounds_toArray, List.set_cons_zero, List.set_cons_succ]
  refine only_ 55 rfl (by kernel_rfl) (by rfl) (fun K hK => ?_)
  go_simp
  (with_reducible refine (K7.out _).mono ?_)
  rintro e wn ⟨rfl, hBn⟩
  go_simp
  refine hK.out _ _ (hHeld.trans (hBn.mono hHeld.size)) (fun hHeld2 => ?_)
  clear hK K hHeld
  have hHeld := hHeld2
  clear hHeld2
  try simp only [Act.put, List.setIfInBounds_toArray, List.set_cons_zero, List.set_cons_succ]
  clear hBn
  refine' take_ 56 rfl (by kernel_rfl) (by kernel_rfl) (by kernel_rfl) (fun _ _ _ h => h) (by rfl) (fun wS hSw => ?_) hHeld ?_
  rotate_left
  focus (go_simp; (try with_reducible rfl); done)
  try simp only [Act.put, List.setIfInBounds_toArray, List.set_cons_zero, List.set_cons_succ]
  refine' take_ 57 rfl (by kernel_rfl) (by kernel_rfl) (by kernel_rfl) (fun _ _ _ h => h) (by rfl) (fun wS hSw => ?_) hHeld ?_
  rotate_left
  focus (go_simp; (try with_reducible rfl); done)
  try simp only [Act.put, List.setIfInBounds_toArray, List.set_cons_zero, List.set_cons_succ]
  refine' take_ 58 rfl (by kernel_rfl) (by kernel_rfl) (by kernel_rfl) (fun _ _ _ h => h) (by rfl) (fun wS hSw => ?_) hHeld ?_
  rotate_left
  focus (go_simp; (try with_reducible rfl); done)
  try simp only [Act.put, List.setIfInBounds_toArray, List.set_cons_zero, List.set_cons_succ]
  refine' take_ 59 rfl (by kernel_rfl) (by kernel_rfl) (by kernel_rfl) (fun _ _ _ h => h) (by rfl) (fun wS hSw => ?_) hHeld ?_
  rotate_left
  focus ((show _ = Result.ok (Next.value (tv ⟨0, 0, 1⟩)) _); go_simp; (try rfl); done)
  try simp only [Act.put, List.setIfInBounds_toArray, List.set_cons_zero, List.set_cons_succ]
  refine only_ 60 rfl (by kernel_rfl) (by rfl) (fun K hK => ?_)
  go_simp
  (with_reducible refine (K8.out _).mono ?_)
  rintro e wn ⟨rfl, hBn⟩
  go_simp
  refine hK.out _ _ (hHeld.trans (hBn.mono hHeld.size)) (fun hHeld2 => ?_)
  clear hK K hHeld
  have hHeld := hHeld2
  clear hHeld2
  try simp only [Act.put, List.setIfInBounds_toArray, List.set_cons_zero, List.set_cons_succ]
  clear hBn
  refine' take_ 61 rfl (by kernel_rfl) (by kernel_rfl) (by kernel_rfl) (fun _ _ _ h => h) (by rfl) (fun wS hSw => ?_) hHeld ?_
  rotate_left
  focus (go_simp; (try with_reducible rfl); done)
  try simp only [Act.put, List.setIfInBounds_toArray, List.set_cons_zero, List.set_cons_succ]
  refine' take_ 62 rfl (by kernel_rfl) (by kernel_rfl) (by kernel_rfl) (fun _ _ _ h => h) (by rfl) (fun wS hSw => ?_) hHeld ?_
  rotate_left
  focus (go_simp; (try with_reducible rfl); done)
  try simp only [Act.put, List.setIfInBounds_toArray, List.set_cons_zero, List.set_cons_succ]
  refine' take_ 63 rfl (by kernel_rfl) (by kernel_rfl) (by kernel_rfl) (fun _ _ _ h => h) (by rfl) (fun wS hSw => ?_) hHeld ?_
  rotate_left
  focus (go_simp; (try with_reducible rfl); done)
  try simp only [Act.put, List.setIfInBounds_toArray, List.set_cons_zero, List.set_cons_succ]
  refine' take_ 64 rfl (by kernel_rfl) (by kernel_rfl) (by kernel_rfl) (fun _ _ _ h => h) (by rfl) (fun wS hSw => run_load_t wS 25 _ g4 rfl _ Try.underlying25 (by kernel_rfl) 25 (RE_wz.out.below hSw RE_wz.out.lt) _ _ _ _ _) hHeld ?_
  try simp only [Act.put, List.setIfInBounds_toArray, List.set_cons_zero, List.set_cons_succ]
  refine' take_ 66 rfl (by kernel_rfl) (by kernel_rfl) (by kernel_rfl) (fun _ _ _ h => h) (by rfl) (fun wS hSw => run_load_t wS 25 _ g4 rfl _ Try.underlying25 (by kernel_rfl) 25 (RE_wz.out.below hSw RE_wz.out.lt) _ _ _ _ _) hHeld ?_
  try simp only [Act.put, List.setIfInBounds_toArray, List.set_cons_zero, List.set_cons_succ]
  refine only_ 65 rfl (by kernel_rfl) (by rfl) (fun K hK => ?_)
  go_simp
  (with_reducible refine (K9.out _).mono ?_)
  rintro e wn ⟨rfl, hBn⟩
  go_simp
  refine hK.out _ _ (hHeld.trans (hBn.mono hHeld.size)) (fun hHeld2 => ?_)
  clear hK K hHeld
  have hHeld := hHeld2
  clear hHeld2
  try simp only [Act.put, List.setIfInBounds_toArray, List.set_cons_zero, List.set_cons_succ]
  clear hBn
  refine' take_ 67 rfl (by kernel_rfl) (by kernel_rfl) (by kernel_rfl) (fun _ _ _ h => h) (by rfl) (fun wS hSw => ?_) hHeld ?_
  rotate_left
  focus ((go_simp; rw [guard_t]; go_simp; rw [run_eql_t]; (try go_simp); (try with_reducible rfl); done))
  try simp only [Act.put, List.setIfInBounds_toArray, List.set_cons_zero, List.set_cons_succ]
  refine' take_ 68 rfl (by kernel_rfl) (by kernel_rfl) (by kernel_rfl) (fun _ _ _ h => h) (by rfl) (fun wS hSw => ?_) hHeld ?_
  rotate_left
  focus (go_simp; (try with_reducible rfl); done)
  try simp only [Act.put, List.setIfInBounds_toArray, List.set_cons_zero, List.set_cons_succ]
  refine' take_ 69 rfl (by kernel_rfl) (by kernel_rfl) (by kernel_rfl) (fun _ _ _ h => h) (by rfl) (fun wS hSw => ?_) hHeld ?_
  rotate_left
  focus (go_simp; (try with_reducible rfl); done)
  try simp only [Act.put, List.setIfInBounds_toArray, List.set_cons_zero, List.set_cons_succ]
  refine' take_ 70 rfl (by kernel_rfl) (by kernel_rfl) (by kernel_rfl) (fun _ _ _ h => h) (by rfl) (fun wS hSw => run_load_t wS 25 _ g4 rfl _ Try.underlying25 (by kernel_rfl) 25 (RE_wz.out.below hSw RE_wz.out.lt) _ _ _ _ _) hHeld ?_
  try simp only [Act.put, List.setIfInBounds_toArray, List.set_cons_zero, List.set_cons_succ]
  refine' take_ 72 rfl (by kernel_rfl) (by kernel_rfl) (by kernel_rfl) (fun _ _ _ h => h) (by rfl) (fun wS hSw => run_load_t wS 25 _ g4 rfl _ Try.underlying25 (by kernel_rfl) 25 (RE_wz.out.below hSw RE_wz.out.lt) _ _ _ _ _) hHeld ?_
  try simp only [Act.put, List.setIfInBounds_toArray, List.set_cons_zero, List.set_cons_succ]
  refine only_ 71 rfl (by kernel_rfl) (by rfl) (fun K hK => ?_)
  go_simp
  (with_reducible refine (K10.out _).mono ?_)
  rintro e wn ⟨rfl, hBn⟩
  go_simp
  refine hK.out _ _ (hHeld.trans (hBn.mono hHeld.size)) (fun hHeld2 => ?_)
  clear hK K hHeld
  have hHeld := hHeld2
  clear hHeld2
  try simp only [Act.put, List.setIfInBounds_toArray, List.set_cons_zero, List.set_cons_succ]
  clear hBn
  refine' take_ 73 rfl (by kernel_rfl) (by kernel_rfl) (by kernel_rfl) (fun _ _ _ h => h) (by rfl) (fun wS hSw => ?_) hHeld ?_
  rotate_left
  focus ((go_simp; rw [guard_t]; go_simp; rw [run_eql_t]; (try go_simp); (try with_reducible rfl); done))
  try simp only [Act.put, List.setIfInBounds_toArray, List.set_cons_zero, List.set_cons_succ]
  refine' take_ 74 rfl (by kernel_rfl) (by kernel_rfl) (by kernel_rfl) (fun _ _ _ h => h) (by rfl) (fun wS hSw => ?_) hHeld ?_
  rotate_left
  focus (go_simp; (try with_reducible rfl); done)
  try simp only [Act.put, List.setIfInBounds_toArray, List.set_cons_zero, List.set_cons_succ]
  refine' take_ 75 rfl (by kernel_rfl) (by kernel_rfl) (by kernel_rfl) (fun _ _ _ h => h) (by rfl) (fun wS hSw => ?_) hHeld ?_
  rotate_left
  focus (go_simp; (try with_reducible rfl); done)
  try simp only [Act.put, List.setIfInBounds_toArray, List.set_cons_zero, List.set_cons_succ]
  refine' take_ 76 rfl (by kernel_rfl) (by kernel_rfl) (by kernel_rfl) (fun _ _ _ h => h) (by rfl) (fun wS hSw => run_load_t wS 25 _ g4 rfl _ Try.underlying25 (by kernel_rfl) 25 (RE_wz.out.below hSw RE_wz.out.lt) _ _ _ _ _) hHeld ?_
  try simp only [Act.put, List.setIfInBounds_toArray, List.set_cons_zero, List.set_cons_succ]
  refine only_ 77 rfl (by kernel_rfl) (by rfl) (fun K hK => ?_)
  go_simp
  (with_reducible refine (K11.out _).mono ?_)
  rintro e wn ⟨rfl, hBn⟩
  go_simp
  refine hK.out _ _ (hHeld.trans (hBn.mono hHeld.size)) (fun hHeld2 => ?_)
  clear hK K hHeld
  have hHeld := hHeld2
  clear hHeld2
  try simp only [Act.put, List.setIfInBounds_toArray, List.set_cons_zero, List.set_cons_succ]
  clear hBn
  refine' take_ 78 rfl (by kernel_rfl) (by kernel_rfl) (by kernel_rfl) (fun _ _ _ h => h) (by rfl) (fun wS hSw => ?_) hHeld ?_
  rotate_left
  focus (go_simp; (try with_reducible rfl); done)
  try simp only [Act.put, List.setIfInBounds_toArray, List.set_cons_zero, List.set_cons_succ]
  refine' take_ 79 rfl (by kernel_rfl) (by kernel_rfl) (by kernel_rfl) (fun _ _ _ h => h) (by rfl) (fun wS hSw => ?_) hHeld ?_
  rotate_left
  focus (go_simp; (try with_reducible rfl); done)
  try simp only [Act.put, List.setIfInBounds_toArray, List.set_cons_zero, List.set_cons_succ]
  refine' take_ 80 rfl (by kernel_rfl) (by kernel_rfl) (by kernel_rfl) (fun _ _ _ h => h) (by rfl) (fun wS hSw => ?_) hHeld ?_
  rotate_left
  focus (go_simp; (try with_reducible rfl); done)
  try simp only [Act.put, List.setIfInBounds_toArray, List.set_cons_zero, List.set_cons_succ]
  refine' take_ 81 rfl (by kernel_rfl) (by kernel_rfl) (by kernel_rfl) (fun _ _ _ h => h) (by rfl) (fun wS hSw => run_load_t wS 25 _ g4 rfl _ Try.underlying25 (by kernel_rfl) 25 (RE_wz.out.below hSw RE_wz.out.lt) _ _ _ _ _) hHeld ?_
  try simp only [Act.put, List.setIfInBounds_toArray, List.set_cons_zero, List.set_cons_succ]
  refine only_ 82 rfl (by kernel_rfl) (by rfl) (fun K hK => ?_)
  go_simp
  (with_reducible refine (K12.out _).mono ?_)
  rintro e wn ⟨rfl, hBn⟩
  go_simp
  refine hK.out _ _ (hHeld.trans (hBn.mono hHeld.size)) (fun hHeld2 => ?_)
  clear hK K hHeld
  have hHeld := hHeld2
  clear hHeld2
  try simp only [Act.put, List.setIfInBounds_toArray, List.set_cons_zero, List.set_cons_succ]
  clear hBn
  refine only_ 83 rfl (by kernel_rfl) (by rfl) (fun K hK => ?_)
  go_simp
  (with_reducible refine (K13.out _).mono ?_)
  rintro e wn ⟨rfl, hBn⟩
  go_simp
  refine hK.out _ _ (hHeld.trans (hBn.mono hHeld.size)) (fun hHeld2 => ?_)
  clear hK K hHeld
  have hHeld := hHeld2
  clear hHeld2
  try simp only [Act.put, List.setIfInBounds_toArray, List.set_cons_zero, List.set_cons_succ]
  clear hBn
  refine' take_ 84 rfl (by kernel_rfl) (by kernel_rfl) (by kernel_rfl) (fun _ _ _ h => h) (by rfl) (fun wS hSw => ?_) hHeld ?_
  rotate_left
  focus (go_simp; (try with_reducible rfl); done)
  try simp only [Act.put, List.setIfInBounds_toArray, List.set_cons_zero, List.set_cons_succ]
  refine' take_ 85 rfl (by kernel_rfl) (by kernel_rfl) (by kernel_rfl) (fun _ _ _ h => h) (by rfl) (fun wS hSw => ?_) hHeld ?_
  rotate_left
  focus (go_simp; (try with_reducible rfl); done)
  try simp only [Act.put, List.setIfInBounds_toArray, List.set_cons_zero, List.set_cons_succ]
  refine' take_ 86 rfl (by kernel_rfl) (by kernel_rfl) (by kernel_rfl) (fun _ _ _ h => h) (by rfl) (fun wS hSw => ?_) hHeld ?_
  rotate_left
  focus (go_simp; (try with_reducible rfl); done)
  try simp only [Act.put, List.setIfInBounds_toArray, List.set_cons_zero]
  refine wpAnyH_done (by kernel_rfl) ?_ _
  refine NoPanic.normal ?_
  go_wp2
  go_ret
  exact ⟨rfl, BB_wz.out.trans (hHeld.mono BB_wz.out.size)⟩
end Go.Proofs.Ytgibindoblhkeaa
