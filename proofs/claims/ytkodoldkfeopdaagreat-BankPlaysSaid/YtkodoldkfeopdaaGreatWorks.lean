/-
  works: by its contract, if the program's functions are what they must be: the chapter's examples: true. Made by wip/genbankref.py.
-/
import Derived.Test.YtkodoldkfeopdaaGreatTd
namespace Go.Proofs.YtkodoldkfeopdaaGreat
open Go.RowKit
set_option linter.unusedVariables false
set_option maxRecDepth 100000
def wA0 : Bk := writeB bare 2 1
theorem wA0_ok : wA0.ok := writeB_ok bare_ok 2 1
def wA : Bk := pinsB wA0 1
theorem wA_ok : wA.ok := pinsB_ok wA0_ok (by decide)
def wB0 : Bk := writeB wA 5 3
theorem wB0_ok : wB0.ok := writeB_ok wA_ok 5 3
def wB : Bk := arriveB wB0 65
theorem wB_ok : wB.ok := arriveB_ok wB0_ok (by decide)
def wC : Bk := readB wB 3
theorem wC_ok : wC.ok := readB_ok wB_ok 3
def wD0 : Bk := writeB wC 10 2
theorem wD0_ok : wD0.ok := writeB_ok wC_ok 10 2
def wD1 : Bk := writeB wD0 11 3
theorem wD1_ok : wD1.ok := writeB_ok wD0_ok 11 3
def wD : Bk := tksB wD1 2
theorem wD_ok : wD.ok := tksB_ok wD1_ok 2
def wE0 : Bk := writeB wD 3 66
theorem wE0_ok : wE0.ok := writeB_ok wD_ok 3 66
def wE : Bk := tksB wE0 4
theorem wE_ok : wE.ok := tksB_ok wE0_ok 4
def wF : Bk := writeB wE 14 255
theorem wF_ok : wF.ok := writeB_ok wE_ok 14 255
theorem peek_wA_13 : peekB wA 13 = 1 := by kernel_rfl
theorem peek_wB_13 : peekB wB 13 = 3 := by kernel_rfl
theorem peek_wB_3 : peekB wB 3 = 65 := by kernel_rfl
theorem peek_wC_4 : peekB wC 4 = 0 := by kernel_rfl
theorem peek_wD_13 : peekB wD 13 = 19 := by kernel_rfl
theorem peek_wE_13 : peekB wE 13 = 23 := by kernel_rfl
theorem peek_wF_13 : peekB wF 13 = 0 := by kernel_rfl
theorem snt_wE0 : sntB wE0 4 = 66 := by kernel_rfl
theorem is_wE0 : isB wE0 4 = true := by kernel_rfl
set_option maxHeartbeats 4000000 in
theorem works_any (H : BankOk) (w : World) : Calls Tryz.prog 6 #[] w fun e w' => e = .returned (.bool true) ∧ Below w.heap.size w w' := by
  have K1 : Hid (∀ W : World, Calls Tryz.prog 7 #[bv bare, .int .i64 2, .int .i32 1] W fun e w' => e = .returned (bv wA0) ∧ Below W.heap.size W w') := Lib.hid (fun W => (H.write bare 2 1 W bare_ok (by decide) (by decide) (by decide) (by decide)).mono (fun e w' h => ⟨h.1.trans (by rfl), h.2⟩))
  have K2 : Hid (∀ W : World, Calls Tryz.prog 12 #[bv wA0, .int .u8 1] W fun e w' => e = .returned (bv wA) ∧ Below W.heap.size W w') := Lib.hid (fun W => (H.pins wA0 1 W wA0_ok (by decide)).mono (fun e w' h => ⟨h.1.trans (by rfl), h.2⟩))
  have K3 : Hid (∀ W : World, Calls Tryz.prog 7 #[bv wA, .int .i64 5, .int .i32 3] W fun e w' => e = .returned (bv wB0) ∧ Below W.heap.size W w') := Lib.hid (fun W => (H.write wA 5 3 W wA_ok (by decide) (by decide) (by decide) (by decide)).mono (fun e w' h => ⟨h.1.trans (by rfl), h.2⟩))
  have K4 : Hid (∀ W : World, Calls Tryz.prog 14 #[bv wB0, .int .u8 65] W fun e w' => e = .returned (bv wB) ∧ Below W.heap.size W w') := Lib.hid (fun W => (H.arrive wB0 65 W wB0_ok (by decide)).mono (fun e w' h => ⟨h.1.trans (by rfl), h.2⟩))
  have K5 : Hid (∀ W : World, Calls Tryz.prog 9 #[bv wB, .int .i64 3] W fun e w' => e = .returned (.tuple #[.int .i32 65, bv wC]) ∧ Below W.heap.size W w') := Lib.hid (fun W => (H.read wB 3 W wB_ok (by decide) (by decide)).mono (fun e w' h => ⟨h.1.trans (by rw [peek_wB_3]; rfl), h.2⟩))
  have K6 : Hid (∀ W : World, Calls Tryz.prog 7 #[bv wC, .int .i64 10, .int .i32 2] W fun e w' => e = .returned (bv wD0) ∧ Below W.heap.size W w') := Lib.hid (fun W => (H.write wC 10 2 W wC_ok (by decide) (by decide) (by decide) (by decide)).mono (fun e w' h => ⟨h.1.trans (by rfl), h.2⟩))
  have K7 : Hid (∀ W : World, Calls Tryz.prog 7 #[bv wD0, .int .i64 11, .int .i32 3] W fun e w' => e = .returned (bv wD1) ∧ Below W.heap.size W w') := Lib.hid (fun W => (H.write wD0 11 3 W wD0_ok (by decide) (by decide) (by decide) (by decide)).mono (fun e w' h => ⟨h.1.trans (by rfl), h.2⟩))
  obtain ⟨s0, hs0⟩ : ∃ x, sntB wD1 2 = x := ⟨_, rfl⟩
  obtain ⟨i0, hi0⟩ : ∃ x, isB wD1 2 = x := ⟨_, rfl⟩
  have K8 : Hid (∀ W : World, Calls Tryz.prog 20 #[bv wD1, .int .i64 2] W fun e w' => e = .returned (.tuple #[bv wD, .int .u8 (s0 : Nat), .bool i0]) ∧ Below W.heap.size W w') := Lib.hid (fun W => (ticked_any H wD1 2 W wD1_ok (by decide)).mono (fun e w' h => ⟨h.1.trans (by rw [hs0, hi0]; rfl), h.2⟩))
  clear hs0 hi0
  have K9 : Hid (∀ W : World, Calls Tryz.prog 7 #[bv wD, .int .i64 3, .int .i32 66] W fun e w' => e = .returned (bv wE0) ∧ Below W.heap.size W w') := Lib.hid (fun W => (H.write wD 3 66 W wD_ok (by decide) (by decide) (by decide) (by decide)).mono (fun e w' h => ⟨h.1.trans (by rfl), h.2⟩))
  have K10 : Hid (∀ W : World, Calls Tryz.prog 20 #[bv wE0, .int .i64 4] W fun e w' => e = .returned (.tuple #[bv wE, .int .u8 66, .bool true]) ∧ Below W.heap.size W w') := Lib.hid (fun W => (ticked_any H wE0 4 W wE0_ok (by decide)).mono (fun e w' h => ⟨h.1.trans (by rw [snt_wE0, is_wE0]; rfl), h.2⟩))
  have K11 : Hid (∀ W : World, Calls Tryz.prog 11 #[bv wA, .int .i64 13] W fun e w' => e = .returned (.int .i32 1) ∧ Below W.heap.size W w') := Lib.hid (fun W => (H.peek wA 13 W wA_ok (by decide) (by decide)).mono (fun e w' h => ⟨h.1.trans (by rw [peek_wA_13]), h.2⟩))
  have K12 : Hid (∀ W : World, Calls Tryz.prog 11 #[bv wB, .int .i64 13] W fun e w' => e = .returned (.int .i32 3) ∧ Below W.heap.size W w') := Lib.hid (fun W => (H.peek wB 13 W wB_ok (by decide) (by decide)).mono (fun e w' h => ⟨h.1.trans (by rw [peek_wB_13]), h.2⟩))
  have K13 : Hid (∀ W : World, Calls Tryz.prog 11 #[bv wC, .int .i64 4] W fun e w' => e = .returned (.int .i32 0) ∧ Below W.heap.size W w') := Lib.hid (fun W => (H.peek wC 4 W wC_ok (by decide) (by decide)).mono (fun e w' h => ⟨h.1.trans (by rw [peek_wC_4]), h.2⟩))
  have K14 : Hid (∀ W : World, Calls Tryz.prog 11 #[bv wD, .int .i64 13] W fun e w' => e = .returned (.int .i32 19) ∧ Below W.heap.size W w') := Lib.hid (fun W => (H.peek wD 13 W wD_ok (by decide) (by decide)).mono (fun e w' h => ⟨h.1.trans (by rw [peek_wD_13]), h.2⟩))
  have K15 : Hid (∀ W : World, Calls Tryz.prog 11 #[bv wE, .int .i64 13] W fun e w' => e = .returned (.int .i32 23) ∧ Below W.heap.size W w') := Lib.hid (fun W => (H.peek wE 13 W wE_ok (by decide) (by decide)).mono (fun e w' h => ⟨h.1.trans (by rw [peek_wE_13]), h.2⟩))
  have K16 : Hid (∀ W : World, Calls Tryz.prog 7 #[bv wE, .int .i64 14, .int .i32 255] W fun e w' => e = .returned (bv wF) ∧ Below W.heap.size W w') := Lib.hid (fun W => (H.write wE 14 255 W wE_ok (by decide) (by decide) (by decide) (by decide)).mono (fun e w' h => ⟨h.1.trans (by rfl), h.2⟩))
  have K17 : Hid (∀ W : World, Calls Tryz.prog 11 #[bv wF, .int .i64 13] W fun e w' => e = .returned (.int .i32 0) ∧ Below W.heap.size W w') := Lib.hid (fun W => (H.peek wF 13 W wF_ok (by decide) (by decide)).mono (fun e w' h => ⟨h.1.trans (by rw [peek_wF_13]), h.2⟩))
  go_enter Tryz.func6, Tryz.ntmps6
  go_upto_region 2 with fail
  refine name_one (Q := fun X => Code.wp _ _ _ _ X) ?_
  intro W0 hq1 hB0 hz
  have RZ_W0 : Hid (BRow W0 w.heap.size 37 bare) := Lib.hid hq1
  have BB_W0 : Hid (Below w.heap.size w W0) := Lib.hid hB0
  clear hq1 hB0 hz
  obtain ⟨g, hg⟩ : ∃ g, w.heap.size = g := ⟨_, rfl⟩
  have LE_RZ : Hid (w.heap.size ≤ g) := Lib.hid (by omega)
  rw [hg] at RZ_W0 ⊢
  clear hg
  go_wp2_with (first
      | (go_at_call 11; have hc := BB_w21; clear hc; (with_reducible refine (K17.out _).mono ?_); rintro e w22 ⟨rfl, hB⟩
         have RZ_w22 : Hid (BRow w22 (g) 37 (bare)) := Lib.hid (BRow.below RZ_w21.out hB RZ_w21.out.lt)
         have RA_w22 : Hid (BRow w22 (w2.heap.size) 37 (wA)) := Lib.hid (BRow.below RA_w21.out hB RA_w21.out.lt)
         have RB_w22 : Hid (BRow w22 (w5.heap.size) 37 (wB)) := Lib.hid (BRow.below RB_w21.out hB RB_w21.out.lt)
         have RC_w22 : Hid (BRow w22 (w7.heap.size) 37 (wC)) := Lib.hid (BRow.below RC_w21.out hB RC_w21.out.lt)
         have RD_w22 : Hid (BRow w22 (w11.heap.size) 37 (wD)) := Lib.hid (BRow.below RD_w21.out hB RD_w21.out.lt)
         have RE_w22 : Hid (BRow w22 (w14.heap.size) 37 (wE)) := Lib.hid (BRow.below RE_w21.out hB RE_w21.out.lt)
         have BB_w22 : Hid (Below w.heap.size w w22) := Lib.hid (BB_w21.out.trans (hB.mono BB_w21.out.size))
         clear hB RZ_w21 RA_w21 RB_w21 RC_w21 RD_w21 RE_w21 BB_w21)
      | (go_at_call 7; have hc := BB_w20; clear hc; (with_reducible refine (K16.out _).mono ?_); rintro e w21 ⟨rfl, hB⟩
         have RZ_w21 : Hid (BRow w21 (g) 37 (bare)) := Lib.hid (BRow.below RZ_w20.out hB RZ_w20.out.lt)
         have RA_w21 : Hid (BRow w21 (w2.heap.size) 37 (wA)) := Lib.hid (BRow.below RA_w20.out hB RA_w20.out.lt)
         have RB_w21 : Hid (BRow w21 (w5.heap.size) 37 (wB)) := Lib.hid (BRow.below RB_w20.out hB RB_w20.out.lt)
         have RC_w21 : Hid (BRow w21 (w7.heap.size) 37 (wC)) := Lib.hid (BRow.below RC_w20.out hB RC_w20.out.lt)
         have RD_w21 : Hid (BRow w21 (w11.heap.size) 37 (wD)) := Lib.hid (BRow.below RD_w20.out hB RD_w20.out.lt)
         have RE_w21 : Hid (BRow w21 (w14.heap.size) 37 (wE)) := Lib.hid (BRow.below RE_w20.out hB RE_w20.out.lt)
         have BB_w21 : Hid (Below w.heap.size w w21) := Lib.hid (BB_w20.out.trans (hB.mono BB_w20.out.size))
         clear hB RZ_w20 RA_w20 RB_w20 RC_w20 RD_w20 RE_w20 BB_w20)
      | ((with_reducible show wpList _ _ _ (⟨some 73, .load 37 (.tmp 9), _, _, _, _⟩ :: _) _ _); refine wpList_load_b (by kernel_rfl) 37 _ rfl (w14.heap.size) (by exact rfl) _ Tryz.underlying37 (by kernel_rfl) 37 RE_w20.out ?_)
      | (go_at_call 11; have hc := BB_w19; clear hc; (with_reducible refine (K15.out _).mono ?_); rintro e w20 ⟨rfl, hB⟩
         have RZ_w20 : Hid (BRow w20 (g) 37 (bare)) := Lib.hid (BRow.below RZ_w19.out hB RZ_w19.out.lt)
         have RA_w20 : Hid (BRow w20 (w2.heap.size) 37 (wA)) := Lib.hid (BRow.below RA_w19.out hB RA_w19.out.lt)
         have RB_w20 : Hid (BRow w20 (w5.heap.size) 37 (wB)) := Lib.hid (BRow.below RB_w19.out hB RB_w19.out.lt)
         have RC_w20 : Hid (BRow w20 (w7.heap.size) 37 (wC)) := Lib.hid (BRow.below RC_w19.out hB RC_w19.out.lt)
         have RD_w20 : Hid (BRow w20 (w11.heap.size) 37 (wD)) := Lib.hid (BRow.below RD_w19.out hB RD_w19.out.lt)
         have RE_w20 : Hid (BRow w20 (w14.heap.size) 37 (wE)) := Lib.hid (BRow.below RE_w19.out hB RE_w19.out.lt)
         have BB_w20 : Hid (Below w.heap.size w w20) := Lib.hid (BB_w19.out.trans (hB.mono BB_w19.out.size))
         clear hB RZ_w19 RA_w19 RB_w19 RC_w19 RD_w19 RE_w19 BB_w19)
      | ((with_reducible show wpList _ _ _ (⟨some 68, .load 37 (.tmp 9), _, _, _, _⟩ :: _) _ _); refine wpList_load_b (by kernel_rfl) 37 _ rfl (w14.heap.size) (by exact rfl) _ Tryz.underlying37 (by kernel_rfl) 37 RE_w19.out ?_)
      | (go_at_call 11; have hc := BB_w18; clear hc; (with_reducible refine (K14.out _).mono ?_); rintro e w19 ⟨rfl, hB⟩
         have RZ_w19 : Hid (BRow w19 (g) 37 (bare)) := Lib.hid (BRow.below RZ_w18.out hB RZ_w18.out.lt)
         have RA_w19 : Hid (BRow w19 (w2.heap.size) 37 (wA)) := Lib.hid (BRow.below RA_w18.out hB RA_w18.out.lt)
         have RB_w19 : Hid (BRow w19 (w5.heap.size) 37 (wB)) := Lib.hid (BRow.below RB_w18.out hB RB_w18.out.lt)
         have RC_w19 : Hid (BRow w19 (w7.heap.size) 37 (wC)) := Lib.hid (BRow.below RC_w18.out hB RC_w18.out.lt)
         have RD_w19 : Hid (BRow w19 (w11.heap.size) 37 (wD)) := Lib.hid (BRow.below RD_w18.out hB RD_w18.out.lt)
         have RE_w19 : Hid (BRow w19 (w14.heap.size) 37 (wE)) := Lib.hid (BRow.below RE_w18.out hB RE_w18.out.lt)
         have BB_w19 : Hid (Below w.heap.size w w19) := Lib.hid (BB_w18.out.trans (hB.mono BB_w18.out.size))
         clear hB RZ_w18 RA_w18 RB_w18 RC_w18 RD_w18 RE_w18 BB_w18)
      | ((with_reducible show wpList _ _ _ (⟨some 56, .load 37 (.tmp 6), _, _, _, _⟩ :: _) _ _); refine wpList_load_b (by kernel_rfl) 37 _ rfl (w11.heap.size) (by exact rfl) _ Tryz.underlying37 (by kernel_rfl) 37 RD_w18.out ?_)
      | (go_at_call 11; have hc := BB_w17; clear hc; (with_reducible refine (K13.out _).mono ?_); rintro e w18 ⟨rfl, hB⟩
         have RZ_w18 : Hid (BRow w18 (g) 37 (bare)) := Lib.hid (BRow.below RZ_w17.out hB RZ_w17.out.lt)
         have RA_w18 : Hid (BRow w18 (w2.heap.size) 37 (wA)) := Lib.hid (BRow.below RA_w17.out hB RA_w17.out.lt)
         have RB_w18 : Hid (BRow w18 (w5.heap.size) 37 (wB)) := Lib.hid (BRow.below RB_w17.out hB RB_w17.out.lt)
         have RC_w18 : Hid (BRow w18 (w7.heap.size) 37 (wC)) := Lib.hid (BRow.below RC_w17.out hB RC_w17.out.lt)
         have RD_w18 : Hid (BRow w18 (w11.heap.size) 37 (wD)) := Lib.hid (BRow.below RD_w17.out hB RD_w17.out.lt)
         have RE_w18 : Hid (BRow w18 (w14.heap.size) 37 (wE)) := Lib.hid (BRow.below RE_w17.out hB RE_w17.out.lt)
         have BB_w18 : Hid (Below w.heap.size w w18) := Lib.hid (BB_w17.out.trans (hB.mono BB_w17.out.size))
         clear hB RZ_w17 RA_w17 RB_w17 RC_w17 RD_w17 RE_w17 BB_w17)
      | ((with_reducible show wpList _ _ _ (⟨some 51, .load 37 (.tmp 5), _, _, _, _⟩ :: _) _ _); refine wpList_load_b (by kernel_rfl) 37 _ rfl (w7.heap.size) (by exact rfl) _ Tryz.underlying37 (by kernel_rfl) 37 RC_w17.out ?_)
      | (go_at_call 11; have hc := BB_w16; clear hc; (with_reducible refine (K12.out _).mono ?_); rintro e w17 ⟨rfl, hB⟩
         have RZ_w17 : Hid (BRow w17 (g) 37 (bare)) := Lib.hid (BRow.below RZ_w16.out hB RZ_w16.out.lt)
         have RA_w17 : Hid (BRow w17 (w2.heap.size) 37 (wA)) := Lib.hid (BRow.below RA_w16.out hB RA_w16.out.lt)
         have RB_w17 : Hid (BRow w17 (w5.heap.size) 37 (wB)) := Lib.hid (BRow.below RB_w16.out hB RB_w16.out.lt)
         have RC_w17 : Hid (BRow w17 (w7.heap.size) 37 (wC)) := Lib.hid (BRow.below RC_w16.out hB RC_w16.out.lt)
         have RD_w17 : Hid (BRow w17 (w11.heap.size) 37 (wD)) := Lib.hid (BRow.below RD_w16.out hB RD_w16.out.lt)
         have RE_w17 : Hid (BRow w17 (w14.heap.size) 37 (wE)) := Lib.hid (BRow.below RE_w16.out hB RE_w16.out.lt)
         have BB_w17 : Hid (Below w.heap.size w w17) := Lib.hid (BB_w16.out.trans (hB.mono BB_w16.out.size))
         clear hB RZ_w16 RA_w16 RB_w16 RC_w16 RD_w16 RE_w16 BB_w16)
      | ((with_reducible show wpList _ _ _ (⟨some 42, .load 37 (.tmp 3), _, _, _, _⟩ :: _) _ _); refine wpList_load_b (by kernel_rfl) 37 _ rfl (w5.heap.size) (by exact rfl) _ Tryz.underlying37 (by kernel_rfl) 37 RB_w16.out ?_)
      | (go_at_call 11; have hc := BB_w15; clear hc; (with_reducible refine (K11.out _).mono ?_); rintro e w16 ⟨rfl, hB⟩
         have RZ_w16 : Hid (BRow w16 (g) 37 (bare)) := Lib.hid (BRow.below RZ_w15.out hB RZ_w15.out.lt)
         have RA_w16 : Hid (BRow w16 (w2.heap.size) 37 (wA)) := Lib.hid (BRow.below RA_w15.out hB RA_w15.out.lt)
         have RB_w16 : Hid (BRow w16 (w5.heap.size) 37 (wB)) := Lib.hid (BRow.below RB_w15.out hB RB_w15.out.lt)
         have RC_w16 : Hid (BRow w16 (w7.heap.size) 37 (wC)) := Lib.hid (BRow.below RC_w15.out hB RC_w15.out.lt)
         have RD_w16 : Hid (BRow w16 (w11.heap.size) 37 (wD)) := Lib.hid (BRow.below RD_w15.out hB RD_w15.out.lt)
         have RE_w16 : Hid (BRow w16 (w14.heap.size) 37 (wE)) := Lib.hid (BRow.below RE_w15.out hB RE_w15.out.lt)
         have BB_w16 : Hid (Below w.heap.size w w16) := Lib.hid (BB_w15.out.trans (hB.mono BB_w15.out.size))
         clear hB RZ_w15 RA_w15 RB_w15 RC_w15 RD_w15 RE_w15 BB_w15)
      | ((with_reducible show wpList _ _ _ (⟨some 38, .load 37 (.tmp 2), _, _, _, _⟩ :: _) _ _); refine wpList_load_b (by rfl) 37 _ rfl (w2.heap.size) (by exact rfl) _ Tryz.underlying37 (by kernel_rfl) 37 RA_w15.out ?_)
      | ((with_reducible show wpList _ _ _ (⟨none, .store 37 (.tmp 9) (.tmp 35), _, _, _, _⟩ :: _) _ _); refine wpList_store_b  rfl 37 _ _ rfl (w14.heap.size) (by exact rfl) (by exact rfl) (by kernel_rfl) 37 (show BRow _ _ _ bare from alloc_at _ _) ?_; intro w15 HN HO HB
         have RZ_w15 : Hid (BRow w15 (g) 37 (bare)) := Lib.hid (BRow.other (BRow.below RZ_w14.out ((Below.refl _ _).alloc (Nat.le_refl _) _) RZ_w14.out.lt) HO.out (Nat.ne_of_lt RZ_w14.out.lt))
         have RA_w15 : Hid (BRow w15 (w2.heap.size) 37 (wA)) := Lib.hid (BRow.other (BRow.below RA_w14.out ((Below.refl _ _).alloc (Nat.le_refl _) _) RA_w14.out.lt) HO.out (Nat.ne_of_lt RA_w14.out.lt))
         have RB_w15 : Hid (BRow w15 (w5.heap.size) 37 (wB)) := Lib.hid (BRow.other (BRow.below RB_w14.out ((Below.refl _ _).alloc (Nat.le_refl _) _) RB_w14.out.lt) HO.out (Nat.ne_of_lt RB_w14.out.lt))
         have RC_w15 : Hid (BRow w15 (w7.heap.size) 37 (wC)) := Lib.hid (BRow.other (BRow.below RC_w14.out ((Below.refl _ _).alloc (Nat.le_refl _) _) RC_w14.out.lt) HO.out (Nat.ne_of_lt RC_w14.out.lt))
         have RD_w15 : Hid (BRow w15 (w11.heap.size) 37 (wD)) := Lib.hid (BRow.other (BRow.below RD_w14.out ((Below.refl _ _).alloc (Nat.le_refl _) _) RD_w14.out.lt) HO.out (Nat.ne_of_lt RD_w14.out.lt))
         have RE_w15 : Hid (BRow w15 w14.heap.size 37 (wE)) := HN
         have BB_w15 : Hid (Below w.heap.size w w15) := Lib.hid ((BB_w14.out.alloc BB_w14.out.size _).trans (HB.out.mono BB_w14.out.size))
         clear HO HB HN RZ_w14 RA_w14 RB_w14 RC_w14 RD_w14 BB_w14)
      | (go_at_call 20; have hc := BB_w13; clear hc; (with_reducible refine (K10.out _).mono ?_); rintro e w14 ⟨rfl, hB⟩
         have RZ_w14 : Hid (BRow w14 (g) 37 (bare)) := Lib.hid (BRow.below RZ_w13.out hB RZ_w13.out.lt)
         have RA_w14 : Hid (BRow w14 (w2.heap.size) 37 (wA)) := Lib.hid (BRow.below RA_w13.out hB RA_w13.out.lt)
         have RB_w14 : Hid (BRow w14 (w5.heap.size) 37 (wB)) := Lib.hid (BRow.below RB_w13.out hB RB_w13.out.lt)
         have RC_w14 : Hid (BRow w14 (w7.heap.size) 37 (wC)) := Lib.hid (BRow.below RC_w13.out hB RC_w13.out.lt)
         have RD_w14 : Hid (BRow w14 (w11.heap.size) 37 (wD)) := Lib.hid (BRow.below RD_w13.out hB RD_w13.out.lt)
         have BB_w14 : Hid (Below w.heap.size w w14) := Lib.hid (BB_w13.out.trans (hB.mono BB_w13.out.size))
         clear hB RZ_w13 RA_w13 RB_w13 RC_w13 RD_w13 BB_w13)
      | (go_at_call 7; have hc := BB_w12; clear hc; (with_reducible refine (K9.out _).mono ?_); rintro e w13 ⟨rfl, hB⟩
         have RZ_w13 : Hid (BRow w13 (g) 37 (bare)) := Lib.hid (BRow.below RZ_w12.out hB RZ_w12.out.lt)
         have RA_w13 : Hid (BRow w13 (w2.heap.size) 37 (wA)) := Lib.hid (BRow.below RA_w12.out hB RA_w12.out.lt)
         have RB_w13 : Hid (BRow w13 (w5.heap.size) 37 (wB)) := Lib.hid (BRow.below RB_w12.out hB RB_w12.out.lt)
         have RC_w13 : Hid (BRow w13 (w7.heap.size) 37 (wC)) := Lib.hid (BRow.below RC_w12.out hB RC_w12.out.lt)
         have RD_w13 : Hid (BRow w13 (w11.heap.size) 37 (wD)) := Lib.hid (BRow.below RD_w12.out hB RD_w12.out.lt)
         have BB_w13 : Hid (Below w.heap.size w w13) := Lib.hid (BB_w12.out.trans (hB.mono BB_w12.out.size))
         clear hB RZ_w12 RA_w12 RB_w12 RC_w12 RD_w12 BB_w12)
      | ((with_reducible show wpList _ _ _ (⟨some 32, .load 37 (.tmp 6), _, _, _, _⟩ :: _) _ _); refine wpList_load_b (by rfl) 37 _ rfl (w11.heap.size) (by exact rfl) _ Tryz.underlying37 (by kernel_rfl) 37 RD_w12.out ?_)
      | ((with_reducible show wpList _ _ _ (⟨none, .store 37 (.tmp 6) (.tmp 28), _, _, _, _⟩ :: _) _ _); refine wpList_store_b  rfl 37 _ _ rfl (w11.heap.size) (by exact rfl) (by exact rfl) (by kernel_rfl) 37 (show BRow _ _ _ bare from alloc_at _ _) ?_; intro w12 HN HO HB
         have RZ_w12 : Hid (BRow w12 (g) 37 (bare)) := Lib.hid (BRow.other (BRow.below RZ_w11.out ((Below.refl _ _).alloc (Nat.le_refl _) _) RZ_w11.out.lt) HO.out (Nat.ne_of_lt RZ_w11.out.lt))
         have RA_w12 : Hid (BRow w12 (w2.heap.size) 37 (wA)) := Lib.hid (BRow.other (BRow.below RA_w11.out ((Below.refl _ _).alloc (Nat.le_refl _) _) RA_w11.out.lt) HO.out (Nat.ne_of_lt RA_w11.out.lt))
         have RB_w12 : Hid (BRow w12 (w5.heap.size) 37 (wB)) := Lib.hid (BRow.other (BRow.below RB_w11.out ((Below.refl _ _).alloc (Nat.le_refl _) _) RB_w11.out.lt) HO.out (Nat.ne_of_lt RB_w11.out.lt))
         have RC_w12 : Hid (BRow w12 (w7.heap.size) 37 (wC)) := Lib.hid (BRow.other (BRow.below RC_w11.out ((Below.refl _ _).alloc (Nat.le_refl _) _) RC_w11.out.lt) HO.out (Nat.ne_of_lt RC_w11.out.lt))
         have RD_w12 : Hid (BRow w12 w11.heap.size 37 (wD)) := HN
         have BB_w12 : Hid (Below w.heap.size w w12) := Lib.hid ((BB_w11.out.alloc BB_w11.out.size _).trans (HB.out.mono BB_w11.out.size))
         clear HO HB HN RZ_w11 RA_w11 RB_w11 RC_w11 BB_w11)
      | (go_at_call 20; have hc := BB_w10; clear hc; (with_reducible refine (K8.out _).mono ?_); rintro e w11 ⟨rfl, hB⟩
         have RZ_w11 : Hid (BRow w11 (g) 37 (bare)) := Lib.hid (BRow.below RZ_w10.out hB RZ_w10.out.lt)
         have RA_w11 : Hid (BRow w11 (w2.heap.size) 37 (wA)) := Lib.hid (BRow.below RA_w10.out hB RA_w10.out.lt)
         have RB_w11 : Hid (BRow w11 (w5.heap.size) 37 (wB)) := Lib.hid (BRow.below RB_w10.out hB RB_w10.out.lt)
         have RC_w11 : Hid (BRow w11 (w7.heap.size) 37 (wC)) := Lib.hid (BRow.below RC_w10.out hB RC_w10.out.lt)
         have BB_w11 : Hid (Below w.heap.size w w11) := Lib.hid (BB_w10.out.trans (hB.mono BB_w10.out.size))
         clear hB RZ_w10 RA_w10 RB_w10 RC_w10 BB_w10)
      | (go_at_call 7; have hc := BB_w9; clear hc; (with_reducible refine (K7.out _).mono ?_); rintro e w10 ⟨rfl, hB⟩
         have RZ_w10 : Hid (BRow w10 (g) 37 (bare)) := Lib.hid (BRow.below RZ_w9.out hB RZ_w9.out.lt)
         have RA_w10 : Hid (BRow w10 (w2.heap.size) 37 (wA)) := Lib.hid (BRow.below RA_w9.out hB RA_w9.out.lt)
         have RB_w10 : Hid (BRow w10 (w5.heap.size) 37 (wB)) := Lib.hid (BRow.below RB_w9.out hB RB_w9.out.lt)
         have RC_w10 : Hid (BRow w10 (w7.heap.size) 37 (wC)) := Lib.hid (BRow.below RC_w9.out hB RC_w9.out.lt)
         have BB_w10 : Hid (Below w.heap.size w w10) := Lib.hid (BB_w9.out.trans (hB.mono BB_w9.out.size))
         clear hB RZ_w9 RA_w9 RB_w9 RC_w9 BB_w9)
      | (go_at_call 7; have hc := BB_w8; clear hc; (with_reducible refine (K6.out _).mono ?_); rintro e w9 ⟨rfl, hB⟩
         have RZ_w9 : Hid (BRow w9 (g) 37 (bare)) := Lib.hid (BRow.below RZ_w8.out hB RZ_w8.out.lt)
         have RA_w9 : Hid (BRow w9 (w2.heap.size) 37 (wA)) := Lib.hid (BRow.below RA_w8.out hB RA_w8.out.lt)
         have RB_w9 : Hid (BRow w9 (w5.heap.size) 37 (wB)) := Lib.hid (BRow.below RB_w8.out hB RB_w8.out.lt)
         have RC_w9 : Hid (BRow w9 (w7.heap.size) 37 (wC)) := Lib.hid (BRow.below RC_w8.out hB RC_w8.out.lt)
         have BB_w9 : Hid (Below w.heap.size w w9) := Lib.hid (BB_w8.out.trans (hB.mono BB_w8.out.size))
         clear hB RZ_w8 RA_w8 RB_w8 RC_w8 BB_w8)
      | ((with_reducible show wpList _ _ _ (⟨some 24, .load 37 (.tmp 5), _, _, _, _⟩ :: _) _ _); refine wpList_load_b (by rfl) 37 _ rfl (w7.heap.size) (by exact rfl) _ Tryz.underlying37 (by kernel_rfl) 37 RC_w8.out ?_)
      | ((with_reducible show wpList _ _ _ (⟨none, .store 37 (.tmp 5) (.tmp 22), _, _, _, _⟩ :: _) _ _); refine wpList_store_b  rfl 37 _ _ rfl (w7.heap.size) (by exact rfl) (by exact rfl) (by kernel_rfl) 37 (show BRow _ _ _ bare from alloc_at _ _) ?_; intro w8 HN HO HB
         have RZ_w8 : Hid (BRow w8 (g) 37 (bare)) := Lib.hid (BRow.other (BRow.below RZ_w7.out ((Below.refl _ _).alloc (Nat.le_refl _) _) RZ_w7.out.lt) HO.out (Nat.ne_of_lt RZ_w7.out.lt))
         have RA_w8 : Hid (BRow w8 (w2.heap.size) 37 (wA)) := Lib.hid (BRow.other (BRow.below RA_w7.out ((Below.refl _ _).alloc (Nat.le_refl _) _) RA_w7.out.lt) HO.out (Nat.ne_of_lt RA_w7.out.lt))
         have RB_w8 : Hid (BRow w8 (w5.heap.size) 37 (wB)) := Lib.hid (BRow.other (BRow.below RB_w7.out ((Below.refl _ _).alloc (Nat.le_refl _) _) RB_w7.out.lt) HO.out (Nat.ne_of_lt RB_w7.out.lt))
         have RC_w8 : Hid (BRow w8 w7.heap.size 37 (wC)) := HN
         have BB_w8 : Hid (Below w.heap.size w w8) := Lib.hid ((BB_w7.out.alloc BB_w7.out.size _).trans (HB.out.mono BB_w7.out.size))
         clear HO HB HN RZ_w7 RA_w7 RB_w7 BB_w7)
      | (go_at_call 9; have hc := BB_w6; clear hc; (with_reducible refine (K5.out _).mono ?_); rintro e w7 ⟨rfl, hB⟩
         have RZ_w7 : Hid (BRow w7 (g) 37 (bare)) := Lib.hid (BRow.below RZ_w6.out hB RZ_w6.out.lt)
         have RA_w7 : Hid (BRow w7 (w2.heap.size) 37 (wA)) := Lib.hid (BRow.below RA_w6.out hB RA_w6.out.lt)
         have RB_w7 : Hid (BRow w7 (w5.heap.size) 37 (wB)) := Lib.hid (BRow.below RB_w6.out hB RB_w6.out.lt)
         have BB_w7 : Hid (Below w.heap.size w w7) := Lib.hid (BB_w6.out.trans (hB.mono BB_w6.out.size))
         clear hB RZ_w6 RA_w6 RB_w6 BB_w6)
      | ((with_reducible show wpList _ _ _ (⟨some 19, .load 37 (.tmp 3), _, _, _, _⟩ :: _) _ _); refine wpList_load_b (by rfl) 37 _ rfl (w5.heap.size) (by exact rfl) _ Tryz.underlying37 (by kernel_rfl) 37 RB_w6.out ?_)
      | ((with_reducible show wpList _ _ _ (⟨none, .store 37 (.tmp 3) (.tmp 17), _, _, _, _⟩ :: _) _ _); refine wpList_store_b  rfl 37 _ _ rfl (w5.heap.size) (by exact rfl) (by exact rfl) (by kernel_rfl) 37 (show BRow _ _ _ bare from alloc_at _ _) ?_; intro w6 HN HO HB
         have RZ_w6 : Hid (BRow w6 (g) 37 (bare)) := Lib.hid (BRow.other (BRow.below RZ_w5.out ((Below.refl _ _).alloc (Nat.le_refl _) _) RZ_w5.out.lt) HO.out (Nat.ne_of_lt RZ_w5.out.lt))
         have RA_w6 : Hid (BRow w6 (w2.heap.size) 37 (wA)) := Lib.hid (BRow.other (BRow.below RA_w5.out ((Below.refl _ _).alloc (Nat.le_refl _) _) RA_w5.out.lt) HO.out (Nat.ne_of_lt RA_w5.out.lt))
         have RB_w6 : Hid (BRow w6 w5.heap.size 37 (wB)) := HN
         have BB_w6 : Hid (Below w.heap.size w w6) := Lib.hid ((BB_w5.out.alloc BB_w5.out.size _).trans (HB.out.mono BB_w5.out.size))
         clear HO HB HN RZ_w5 RA_w5 BB_w5)
      | (go_at_call 14; have hc := BB_w4; clear hc; (with_reducible refine (K4.out _).mono ?_); rintro e w5 ⟨rfl, hB⟩
         have RZ_w5 : Hid (BRow w5 (g) 37 (bare)) := Lib.hid (BRow.below RZ_w4.out hB RZ_w4.out.lt)
         have RA_w5 : Hid (BRow w5 (w2.heap.size) 37 (wA)) := Lib.hid (BRow.below RA_w4.out hB RA_w4.out.lt)
         have BB_w5 : Hid (Below w.heap.size w w5) := Lib.hid (BB_w4.out.trans (hB.mono BB_w4.out.size))
         clear hB RZ_w4 RA_w4 BB_w4)
      | (go_at_call 7; have hc := BB_w3; clear hc; (with_reducible refine (K3.out _).mono ?_); rintro e w4 ⟨rfl, hB⟩
         have RZ_w4 : Hid (BRow w4 (g) 37 (bare)) := Lib.hid (BRow.below RZ_w3.out hB RZ_w3.out.lt)
         have RA_w4 : Hid (BRow w4 (w2.heap.size) 37 (wA)) := Lib.hid (BRow.below RA_w3.out hB RA_w3.out.lt)
         have BB_w4 : Hid (Below w.heap.size w w4) := Lib.hid (BB_w3.out.trans (hB.mono BB_w3.out.size))
         clear hB RZ_w3 RA_w3 BB_w3)
      | ((with_reducible show wpList _ _ _ (⟨some 15, .load 37 (.tmp 2), _, _, _, _⟩ :: _) _ _); refine wpList_load_b (by rfl) 37 _ rfl (w2.heap.size) (by exact rfl) _ Tryz.underlying37 (by kernel_rfl) 37 RA_w3.out ?_)
      | ((with_reducible show wpList _ _ _ (⟨none, .store 37 (.tmp 2) (.tmp 14), _, _, _, _⟩ :: _) _ _); refine wpList_store_b  rfl 37 _ _ rfl (w2.heap.size) (by exact rfl) (by exact rfl) (by kernel_rfl) 37 (show BRow _ _ _ bare from alloc_at _ _) ?_; intro w3 HN HO HB
         have RZ_w3 : Hid (BRow w3 (g) 37 (bare)) := Lib.hid (BRow.other (BRow.below RZ_w2.out ((Below.refl _ _).alloc (Nat.le_refl _) _) RZ_w2.out.lt) HO.out (Nat.ne_of_lt RZ_w2.out.lt))
         have RA_w3 : Hid (BRow w3 w2.heap.size 37 (wA)) := HN
         have BB_w3 : Hid (Below w.heap.size w w3) := Lib.hid ((BB_w2.out.alloc BB_w2.out.size _).trans (HB.out.mono BB_w2.out.size))
         clear HO HB HN RZ_w2 BB_w2)
      | (go_at_call 12; have hc := BB_w1; clear hc; (with_reducible refine (K2.out _).mono ?_); rintro e w2 ⟨rfl, hB⟩
         have RZ_w2 : Hid (BRow w2 (g) 37 (bare)) := Lib.hid (BRow.below RZ_w1.out hB RZ_w1.out.lt)
         have BB_w2 : Hid (Below w.heap.size w w2) := Lib.hid (BB_w1.out.trans (hB.mono BB_w1.out.size))
         clear hB RZ_w1 BB_w1)
      | (go_at_call 7; have hc := BB_W0; clear hc; (with_reducible refine (K1.out _).mono ?_); rintro e w1 ⟨rfl, hB⟩
         have RZ_w1 : Hid (BRow w1 (g) 37 (bare)) := Lib.hid (BRow.below RZ_W0.out hB RZ_W0.out.lt)
         have BB_w1 : Hid (Below w.heap.size w w1) := Lib.hid (BB_W0.out.trans (hB.mono BB_W0.out.size))
         clear hB RZ_W0 BB_W0)
      | ((with_reducible show wpList _ _ _ (⟨some 12, .load 37 (.tmp 1), _, _, _, _⟩ :: _) _ _); refine wpList_load_b (by rfl) 37 _ rfl (g) (by exact rfl) _ Tryz.underlying37 (by kernel_rfl) 37 RZ_W0.out ?_))
  go_ret
  exact ⟨rfl, BB_w22.out⟩
end Go.Proofs.YtkodoldkfeopdaaGreat
