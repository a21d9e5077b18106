/-
  BankKnown's walk, if the program's functions are what they must be: true. Made by wip/genbankref.py.
-/
import Derived.Test.YtkodoldkfeopdaaAm
import Derived.Test.YtkodoldkfeopdaaBe
import Derived.Test.YtkodoldkfeopdaaRk
import Derived.Deep.DeepCutAuto
import Derived.Deep.CutBlock
namespace Go.Proofs.Ytkodoldkfeopdaa
open Go.RowKit
set_option linter.unusedVariables false
set_option maxRecDepth 100000
theorem zero15k : ([.int .i32 0, .int .i32 0, .int .i32 0, .int .i32 0, .int .i32 0, .int .i32 0, .int .i32 0, .int .i32 0, .int .i32 0, .int .i32 0, .int .i32 0, .int .i32 0, .int .i32 0, .int .i32 0, .int .i32 0] : List Value).length = 15 := rfl
def zero15 : List Value := [.int .i32 0, .int .i32 0, .int .i32 0, .int .i32 0, .int .i32 0, .int .i32 0, .int .i32 0, .int .i32 0, .int .i32 0, .int .i32 0, .int .i32 0, .int .i32 0, .int .i32 0, .int .i32 0, .int .i32 0]
/-- Behind writes of so many registers. -/
def wrK : Nat → Bk
  | 0 => bare
  | k + 1 => writeB (wrK k) ((k : Nat) : Int) (70000 + ((k : Nat) : Int))
theorem wrK_ok : ∀ k, (wrK k).ok
  | 0 => bare_ok
  | k + 1 => writeB_ok (wrK_ok k) _ _
/-- Behind so many bytes. -/
def arK : Nat → Bk
  | 0 => bare
  | k + 1 => arriveB (arK k) (k % 256)
theorem arK_ok : ∀ k, (arK k).ok
  | 0 => bare_ok
  | k + 1 => arriveB_ok (arK_ok k) (Nat.mod_lt _ (by decide))
theorem want_all : ([.int .i32 112, .int .i32 0, .int .i32 114, .int .i32 0, .int .i32 0, .int .i32 117, .int .i32 4470, .int .i32 4471, .int .i32 4472, .int .i32 4473, .int .i32 4474, .int .i32 4475, .int .i32 124, .int .i32 1, .int .i32 0] : List Value) = allB (wrK 15) := by kernel_rfl
def kT0 : Bk := writeB bare 7 1
theorem kT0_ok : kT0.ok := writeB_ok bare_ok 7 1
def kT : Bk := writeB kT0 8 1
theorem kT_ok : kT.ok := writeB_ok kT0_ok 8 1
def kO : Bk := tickB kT
theorem kO_ok : kO.ok := tickB_ok kT_ok
def kQ0 : Bk := pinsB bare 255
theorem kQ0_ok : kQ0.ok := pinsB_ok bare_ok (by decide)
def kQ : Bk := arriveB kQ0 7
theorem kQ_ok : kQ.ok := arriveB_ok kQ0_ok (by decide)
def kF : Bk := arK 9
theorem kF_ok : kF.ok := arK_ok 9
def kL : Bk := readB kF 4
theorem kL_ok : kL.ok := readB_ok kF_ok 4
theorem tick_again : tickB kO = kO := by kernel_rfl
theorem read_99 : readB bare 99 = bare := by kernel_rfl
theorem pk_kO_13 : peekB kO (13) = 8 := by kernel_rfl
theorem pk_kO_8 : peekB kO (8) = 0 := by kernel_rfl
theorem pk_kQ_13 : peekB kQ (13) = 0 := by kernel_rfl
theorem pk_kQ_1 : peekB kQ (1) = 255 := by kernel_rfl
theorem pk_kQ_3 : peekB kQ (3) = 7 := by kernel_rfl
theorem pk_kF_4 : peekB kF (4) = 5 := by kernel_rfl
theorem pk_kL_4 : peekB kL (4) = 1 := by kernel_rfl
theorem pk_bare_m1 : peekB bare (-1) = 0 := by kernel_rfl
theorem pk_bare_15 : peekB bare (15) = 0 := by kernel_rfl
theorem pk_bare_99 : peekB bare (99) = 0 := by kernel_rfl
theorem low_70000 (w : World) : Calls Try.prog 16 #[.int .i64 70000] w fun x w' => x = .returned (.int .i32 112) ∧ Below w.heap.size w w' := by
  have hb : bits .and .i64 70000 255 = 112 := by decide
  go_enter Try.func16, Try.ntmps16
  go_wp2
  go_ret
  exact ⟨rfl, Below.refl _ _⟩
theorem low_70002 (w : World) : Calls Try.prog 16 #[.int .i64 70002] w fun x w' => x = .returned (.int .i32 114) ∧ Below w.heap.size w w' := by
  have hb : bits .and .i64 70002 255 = 114 := by decide
  go_enter Try.func16, Try.ntmps16
  go_wp2
  go_ret
  exact ⟨rfl, Below.refl _ _⟩
theorem low_70005 (w : World) : Calls Try.prog 16 #[.int .i64 70005] w fun x w' => x = .returned (.int .i32 117) ∧ Below w.heap.size w w' := by
  have hb : bits .and .i64 70005 255 = 117 := by decide
  go_enter Try.func16, Try.ntmps16
  go_wp2
  go_ret
  exact ⟨rfl, Below.refl _ _⟩
theorem low_70012 (w : World) : Calls Try.prog 16 #[.int .i64 70012] w fun x w' => x = .returned (.int .i32 124) ∧ Below w.heap.size w w' := by
  have hb : bits .and .i64 70012 255 = 124 := by decide
  go_enter Try.func16, Try.ntmps16
  go_wp2
  go_ret
  exact ⟨rfl, Below.refl _ _⟩
theorem low_70013 (w : World) : Calls Try.prog 16 #[.int .i64 70013] w fun x w' => x = .returned (.int .i32 125) ∧ Below w.heap.size w w' := by
  have hb : bits .and .i64 70013 255 = 125 := by decide
  go_enter Try.func16, Try.ntmps16
  go_wp2
  go_ret
  exact ⟨rfl, Below.refl _ _⟩
theorem low_70014 (w : World) : Calls Try.prog 16 #[.int .i64 70014] w fun x w' => x = .returned (.int .i32 126) ∧ Below w.heap.size w w' := by
  have hb : bits .and .i64 70014 255 = 126 := by decide
  go_enter Try.func16, Try.ntmps16
  go_wp2
  go_ret
  exact ⟨rfl, Below.refl _ _⟩
set_option maxHeartbeats 16000000 in
theorem known_walk (H : BankOk) (w : World) : Calls Try.prog 5 #[] w fun e w' => e = .returned (.bool true) ∧ Below w.heap.size w w' := by
  have KW := Lib.hid (works_any H)
  have KA := Lib.hid (fun W => H.all (wrK 15) W (wrK_ok 15))
  have K1 : Hid (∀ W : World, Calls Try.prog 10 #[bv bare, .int .i64 7, .int .i32 1] W fun e w' => e = .returned (bv kT0) ∧ Below W.heap.size W w') := Lib.hid (fun W => (H.write bare 7 1 W bare_ok (by decide) (by decide) (by decide) (by decide)).mono (fun e w' h => ⟨h.1.trans (by rfl), h.2⟩))
  have K2 : Hid (∀ W : World, Calls Try.prog 10 #[bv kT0, .int .i64 8, .int .i32 1] W fun e w' => e = .returned (bv kT) ∧ Below W.heap.size W w') := Lib.hid (fun W => (H.write kT0 8 1 W kT0_ok (by decide) (by decide) (by decide) (by decide)).mono (fun e w' h => ⟨h.1.trans (by rfl), h.2⟩))
  obtain ⟨s1, hs1⟩ : ∃ x, Ua.tickB kT.T kT.k = x := ⟨_, rfl⟩
  obtain ⟨i1, hi1⟩ : ∃ x, Ua.sendsU kT.T kT.k = x := ⟨_, rfl⟩
  have K3 : Hid (∀ W : World, Calls Try.prog 12 #[bv kT] W fun e w' => e = .returned (.tuple #[bv kO, .int .u8 (s1 : Nat), .bool i1]) ∧ Below W.heap.size W w') := Lib.hid (fun W => (H.tick kT W kT_ok).mono (fun e w' h => ⟨h.1.trans (by rw [hs1, hi1]; rfl), h.2⟩))
  clear hs1 hi1
  obtain ⟨s2, hs2⟩ : ∃ x, Ua.tickB kO.T kO.k = x := ⟨_, rfl⟩
  obtain ⟨i2, hi2⟩ : ∃ x, Ua.sendsU kO.T kO.k = x := ⟨_, rfl⟩
  have K4 : Hid (∀ W : World, Calls Try.prog 12 #[bv kO] W fun e w' => e = .returned (.tuple #[bv kO, .int .u8 (s2 : Nat), .bool i2]) ∧ Below W.heap.size W w') := Lib.hid (fun W => (H.tick kO W kO_ok).mono (fun e w' h => ⟨h.1.trans (by rw [hs2, hi2, tick_again]), h.2⟩))
  clear hs2 hi2
  have K5 : Hid (∀ W : World, Calls Try.prog 13 #[bv bare, .int .u8 255] W fun e w' => e = .returned (bv kQ0) ∧ Below W.heap.size W w') := Lib.hid (fun W => (H.pins bare 255 W bare_ok (by decide)).mono (fun e w' h => ⟨h.1.trans (by rfl), h.2⟩))
  have K6 : Hid (∀ W : World, Calls Try.prog 14 #[bv kQ0, .int .u8 7] W fun e w' => e = .returned (bv kQ) ∧ Below W.heap.size W w') := Lib.hid (fun W => (H.arrive kQ0 7 W kQ0_ok (by decide)).mono (fun e w' h => ⟨h.1.trans (by rfl), h.2⟩))
  have K7 : Hid (∀ W : World, Calls Try.prog 11 #[bv bare, .int .i64 99] W fun e w' => e = .returned (.tuple #[.int .i32 0, bv bare]) ∧ Below W.heap.size W w') := Lib.hid (fun W => (H.read bare 99 W bare_ok (by decide) (by decide)).mono (fun e w' h => ⟨h.1.trans (by rw [pk_bare_99, read_99]), h.2⟩))
  have K8 : Hid (∀ W : World, Calls Try.prog 11 #[bv kF, .int .i64 4] W fun e w' => e = .returned (.tuple #[.int .i32 5, bv kL]) ∧ Below W.heap.size W w') := Lib.hid (fun W => (H.read kF 4 W kF_ok (by decide) (by decide)).mono (fun e w' h => ⟨h.1.trans (by rw [pk_kF_4]; rfl), h.2⟩))
  have K10 : Hid (∀ W : World, Calls Try.prog 9 #[bv kO, .int .i64 (13)] W fun e w' => e = .returned (.int .i32 8) ∧ Below W.heap.size W w') := Lib.hid (fun W => (H.peek kO (13) W kO_ok (by decide) (by decide)).mono (fun e w' h => ⟨h.1.trans (by rw [pk_kO_13]), h.2⟩))
  have K11 : Hid (∀ W : World, Calls Try.prog 9 #[bv kO, .int .i64 (8)] W fun e w' => e = .returned (.int .i32 0) ∧ Below W.heap.size W w') := Lib.hid (fun W => (H.peek kO (8) W kO_ok (by decide) (by decide)).mono (fun e w' h => ⟨h.1.trans (by rw [pk_kO_8]), h.2⟩))
  have K12 : Hid (∀ W : World, Calls Try.prog 9 #[bv kQ, .int .i64 (13)] W fun e w' => e = .returned (.int .i32 0) ∧ Below W.heap.size W w') := Lib.hid (fun W => (H.peek kQ (13) W kQ_ok (by decide) (by decide)).mono (fun e w' h => ⟨h.1.trans (by rw [pk_kQ_13]), h.2⟩))
  have K13 : Hid (∀ W : World, Calls Try.prog 9 #[bv kQ, .int .i64 (1)] W fun e w' => e = .returned (.int .i32 255) ∧ Below W.heap.size W w') := Lib.hid (fun W => (H.peek kQ (1) W kQ_ok (by decide) (by decide)).mono (fun e w' h => ⟨h.1.trans (by rw [pk_kQ_1]), h.2⟩))
  have K14 : Hid (∀ W : World, Calls Try.prog 9 #[bv kQ, .int .i64 (3)] W fun e w' => e = .returned (.int .i32 7) ∧ Below W.heap.size W w') := Lib.hid (fun W => (H.peek kQ (3) W kQ_ok (by decide) (by decide)).mono (fun e w' h => ⟨h.1.trans (by rw [pk_kQ_3]), h.2⟩))
  have K16 : Hid (∀ W : World, Calls Try.prog 9 #[bv kL, .int .i64 (4)] W fun e w' => e = .returned (.int .i32 1) ∧ Below W.heap.size W w') := Lib.hid (fun W => (H.peek kL (4) W kL_ok (by decide) (by decide)).mono (fun e w' h => ⟨h.1.trans (by rw [pk_kL_4]), h.2⟩))
  have K17 : Hid (∀ W : World, Calls Try.prog 9 #[bv bare, .int .i64 (-1)] W fun e w' => e = .returned (.int .i32 0) ∧ Below W.heap.size W w') := Lib.hid (fun W => (H.peek bare (-1) W bare_ok (by decide) (by decide)).mono (fun e w' h => ⟨h.1.trans (by rw [pk_bare_m1]), h.2⟩))
  have K18 : Hid (∀ W : World, Calls Try.prog 9 #[bv bare, .int .i64 (15)] W fun e w' => e = .returned (.int .i32 0) ∧ Below W.heap.size W w') := Lib.hid (fun W => (H.peek bare (15) W bare_ok (by decide) (by decide)).mono (fun e w' h => ⟨h.1.trans (by rw [pk_bare_15]), h.2⟩))
  go_enter Try.func5, Try.ntmps5
  go_upto_region 2 with fail
  refine name_one (Q := fun X => Code.wp _ _ _ _ X) ?_
  intro W0 hq1 hB0 hz
  have RZ_W0 : Hid (BRow W0 w.heap.size 41 bare) := Lib.hid hq1
  have BB_W0 : Hid (Below w.heap.size w W0) := Lib.hid hB0
  clear hq1 hB0 hz
  obtain ⟨g, hg⟩ : ∃ g, w.heap.size = g := ⟨_, rfl⟩
  have LE_RZ : Hid (w.heap.size ≤ g) := Lib.hid (by omega)
  rw [hg] at RZ_W0 ⊢
  clear hg
  go_upto_region 3 with (first
      | ((with_reducible show wpList _ _ _ (⟨none, .store 41 (.tmp 2) (.tmp 20), _, _, _, _⟩ :: _) _ _); refine wpList_store_b  rfl 41 _ _ rfl (W0.heap.size) (by exact rfl) (by exact rfl) (by kernel_rfl) 41 (show BRow _ _ _ bare from alloc_at _ _) ?_; intro w1 HN HO HB
         have RZ_w1 : Hid (BRow w1 (g) 41 (bare)) := Lib.hid (BRow.other (BRow.below RZ_W0.out ((Below.refl _ _).alloc (Nat.le_refl _) _) RZ_W0.out.lt) HO.out (Nat.ne_of_lt RZ_W0.out.lt))
         have RB_w1 : Hid (BRow w1 W0.heap.size 41 (wrK 0)) := HN
         have BB_w1 : Hid (Below w.heap.size w w1) := Lib.hid ((BB_W0.out.alloc BB_W0.out.size _).trans (HB.out.mono BB_W0.out.size))
         have NE_RZ_RB : Hid (g ≠ W0.heap.size) := Lib.hid (Nat.ne_of_lt RZ_W0.out.lt)
         have LE_RB : Hid (w.heap.size ≤ W0.heap.size) := Lib.hid BB_W0.out.size
         clear HO HB HN RZ_W0 BB_W0)
      | ((with_reducible show wpList _ _ _ (⟨some 20, .load 41 (.tmp 1), _, _, _, _⟩ :: _) _ _); refine wpList_load_b (by rfl) 41 _ rfl (g) (by exact rfl) _ Try.underlying41 (by kernel_rfl) 41 RZ_W0.out ?_))
  obtain ⟨g2, hg2⟩ : ∃ g, W0.heap.size = g := ⟨_, rfl⟩
  rw [hg2] at RB_w1 NE_RZ_RB LE_RB ⊢
  clear hg2
  go_wp2_with fail
  go_loopw [3] (fun iv wx => ∃ k : Nat, k ≤ 15 ∧ iv = .int .i64 (k : Int) ∧ BRow wx g 41 bare ∧ BRow wx g2 41 (wrK k) ∧ Below w.heap.size w wx) (fun iv _ => 15 - (intOf iv).toNat)
  case atStart => exact ⟨0, by omega, rfl, RZ_w1.out, RB_w1.out, BB_w1.out⟩
  case round =>
    clear RZ_w1 RB_w1 BB_w1
    obtain ⟨k, hk, rfl, q1, q2, q3⟩ := hrel
    obtain ⟨u, hu⟩ : ∃ W, wr = W := ⟨_, rfl⟩
    rw [hu] at q1 q2 q3 ⊢
    clear hu
    have RZ_u := Lib.hid q1
    have RB_u := Lib.hid q2
    have BB_u := Lib.hid q3
    clear q1 q2 q3
    by_cases hlt : k < 15
    · have hki : (k : Int) ≤ 14 := by omega
      have HLT := Lib.hid hlt
      have KX := Lib.hid (fun W => H.write (wrK k) (k : Int) (70000 + (k : Int)) W (wrK_ok k) (by omega) (by omega) (by omega) (by omega))
      have HE : Hid (writeB (wrK k) (k : Int) (70000 + (k : Int)) = wrK (k + 1)) := Lib.hid rfl
      rw [HE.out] at KX
      clear hlt
      go_wp2_with (first
      | ((with_reducible show wpList _ _ _ (⟨none, .store 41 (.tmp 2) (.tmp 30), _, _, _, _⟩ :: _) _ _); refine wpList_store_b rfl 41 _ _ rfl (g2) (by exact rfl) (by exact rfl) (by kernel_rfl) 41 RB_u1.out ?_; intro u2 HN HO HB
         have RZ_u2 : Hid (BRow u2 (g) 41 (bare)) := Lib.hid (BRow.other RZ_u1.out HO.out (NE_RZ_RB.out))
         have RB_u2 : Hid (BRow u2 (g2) 41 (wrK (k + 1))) := HN
         have BB_u2 : Hid (Below w.heap.size w u2) := Lib.hid (BB_u1.out.trans (HB.out.mono LE_RB.out))
         clear HO HB HN RZ_u1 RB_u1 BB_u1)
      | (go_at_call 10; have hc := BB_u; clear hc; (with_reducible refine (KX.out _).mono ?_); rintro e u1 ⟨rfl, hB⟩
         have RZ_u1 : Hid (BRow u1 (g) 41 (bare)) := Lib.hid (BRow.below RZ_u.out hB RZ_u.out.lt)
         have RB_u1 : Hid (BRow u1 (g2) 41 (wrK k)) := Lib.hid (BRow.below RB_u.out hB RB_u.out.lt)
         have BB_u1 : Hid (Below w.heap.size w u1) := Lib.hid (BB_u.out.trans (hB.mono BB_u.out.size))
         clear hB RZ_u RB_u BB_u)
      | ((with_reducible show wpList _ _ _ (⟨some 25, .load 41 (.tmp 2), _, _, _, _⟩ :: _) _ _); refine wpList_load_b (by rfl) 41 _ rfl (g2) (by exact rfl) _ Try.underlying41 (by kernel_rfl) 41 RB_u.out ?_))
      go_roundw
      case rel => exact ⟨k + 1, by have := HLT.out; omega, by go_num, RZ_u2.out, RB_u2.out, BB_u2.out⟩
      case measure =>
        simp [intOf]
        have := HLT.out
        (try omega)
    · obtain rfl : k = 15 := by omega
      have d3 : ¬ (15 : Int) ≤ 14 := by omega
      have d4 : ¬ ((15 : Nat) : Int) ≤ 14 := by omega
      clear hlt hk
      have hbn : bits .andNot .i32 125 126 = 1 := by decide
      go_upto_region 15 with (first
        | ((with_reducible show wpList _ _ _ (⟨none, .store 41 (.tmp 16) (.tmp 64), _, _, _, _⟩ :: _) _ _); refine wpList_store_b  rfl 41 _ _ rfl (w22.heap.size) (by exact rfl) (by exact rfl) (by kernel_rfl) 41 (show BRow _ _ _ bare from alloc_at _ _) ?_; intro w23 HN HO HB
           have RZ_w23 : Hid (BRow w23 (g) 41 (bare)) := Lib.hid (BRow.other (BRow.below RZ_w22.out ((Below.refl _ _).alloc (Nat.le_refl _) _) RZ_w22.out.lt) HO.out (Nat.ne_of_lt RZ_w22.out.lt))
           have RB_w23 : Hid (BRow w23 (g2) 41 (wrK 15)) := Lib.hid (BRow.other (BRow.below RB_w22.out ((Below.refl _ _).alloc (Nat.le_refl _) _) RB_w22.out.lt) HO.out (Nat.ne_of_lt RB_w22.out.lt))
           have RA_w23 : Hid (VRow w23 (w2.heap.size) 51 (allB (wrK 15))) := Lib.hid (VRow.oth (VRow.below RA_w22.out ((Below.refl _ _).alloc (Nat.le_refl _) _) RA_w22.out.lt) HO.out (Nat.ne_of_lt RA_w22.out.lt))
           have RW_w23 : Hid (VRow w23 (w9.heap.size) 51 (allB (wrK 15))) := Lib.hid (VRow.oth (VRow.below RW_w22.out ((Below.refl _ _).alloc (Nat.le_refl _) _) RW_w22.out.lt) HO.out (Nat.ne_of_lt RW_w22.out.lt))
           have RT_w23 : Hid (BRow w23 (w12.heap.size) 41 (kT)) := Lib.hid (BRow.other (BRow.below RT_w22.out ((Below.refl _ _).alloc (Nat.le_refl _) _) RT_w22.out.lt) HO.out (Nat.ne_of_lt RT_w22.out.lt))
           have RO_w23 : Hid (BRow w23 (w14.heap.size) 41 (kO)) := Lib.hid (BRow.other (BRow.below RO_w22.out ((Below.refl _ _).alloc (Nat.le_refl _) _) RO_w22.out.lt) HO.out (Nat.ne_of_lt RO_w22.out.lt))
           have R2_w23 : Hid (BRow w23 (w16.heap.size) 41 (kO)) := Lib.hid (BRow.other (BRow.below R2_w22.out ((Below.refl _ _).alloc (Nat.le_refl _) _) R2_w22.out.lt) HO.out (Nat.ne_of_lt R2_w22.out.lt))
           have RQ_w23 : Hid (BRow w23 (w19.heap.size) 41 (kQ)) := Lib.hid (BRow.other (BRow.below RQ_w22.out ((Below.refl _ _).alloc (Nat.le_refl _) _) RQ_w22.out.lt) HO.out (Nat.ne_of_lt RQ_w22.out.lt))
           have R9_w23 : Hid (BRow w23 (w21.heap.size) 41 (bare)) := Lib.hid (BRow.other (BRow.below R9_w22.out ((Below.refl _ _).alloc (Nat.le_refl _) _) R9_w22.out.lt) HO.out (Nat.ne_of_lt R9_w22.out.lt))
           have RF_w23 : Hid (BRow w23 w22.heap.size 41 (arK 0)) := HN
           have BB_w23 : Hid (Below w.heap.size w w23) := Lib.hid ((BB_w22.out.alloc BB_w22.out.size _).trans (HB.out.mono BB_w22.out.size))
           have NE_RZ_RF : Hid (g ≠ w22.heap.size) := Lib.hid (Nat.ne_of_lt RZ_w22.out.lt)
           have NE_RA_RF : Hid (w2.heap.size ≠ w22.heap.size) := Lib.hid (Nat.ne_of_lt RA_w22.out.lt)
           have NE_RW_RF : Hid (w9.heap.size ≠ w22.heap.size) := Lib.hid (Nat.ne_of_lt RW_w22.out.lt)
           have NE_RT_RF : Hid (w12.heap.size ≠ w22.heap.size) := Lib.hid (Nat.ne_of_lt RT_w22.out.lt)
           have NE_RO_RF : Hid (w14.heap.size ≠ w22.heap.size) := Lib.hid (Nat.ne_of_lt RO_w22.out.lt)
           have NE_R2_RF : Hid (w16.heap.size ≠ w22.heap.size) := Lib.hid (Nat.ne_of_lt R2_w22.out.lt)
           have NE_RQ_RF : Hid (w19.heap.size ≠ w22.heap.size) := Lib.hid (Nat.ne_of_lt RQ_w22.out.lt)
           have NE_R9_RF : Hid (w21.heap.size ≠ w22.heap.size) := Lib.hid (Nat.ne_of_lt R9_w22.out.lt)
           have LE_RF : Hid (w.heap.size ≤ w22.heap.size) := Lib.hid BB_w22.out.size
           clear HO HB HN RZ_w22 RB_w22 RA_w22 RW_w22 RT_w22 RO_w22 R2_w22 RQ_w22 R9_w22 BB_w22)
        | ((with_reducible show wpList _ _ _ (⟨some 64, .load 41 (.tmp 1), _, _, _, _⟩ :: _) _ _); refine wpList_load_b (by rfl) 41 _ rfl (g) (by exact rfl) _ Try.underlying41 (by kernel_rfl) 41 RZ_w22.out ?_)
        | ((with_reducible show wpList _ _ _ (⟨none, .store 41 (.tmp 15) (.tmp 63), _, _, _, _⟩ :: _) _ _); refine wpList_store_b  rfl 41 _ _ rfl (w21.heap.size) (by exact rfl) (by exact rfl) (by kernel_rfl) 41 (show BRow _ _ _ bare from alloc_at _ _) ?_; intro w22 HN HO HB
           have RZ_w22 : Hid (BRow w22 (g) 41 (bare)) := Lib.hid (BRow.other (BRow.below RZ_w21.out ((Below.refl _ _).alloc (Nat.le_refl _) _) RZ_w21.out.lt) HO.out (Nat.ne_of_lt RZ_w21.out.lt))
           have RB_w22 : Hid (BRow w22 (g2) 41 (wrK 15)) := Lib.hid (BRow.other (BRow.below RB_w21.out ((Below.refl _ _).alloc (Nat.le_refl _) _) RB_w21.out.lt) HO.out (Nat.ne_of_lt RB_w21.out.lt))
           have RA_w22 : Hid (VRow w22 (w2.heap.size) 51 (allB (wrK 15))) := Lib.hid (VRow.oth (VRow.below RA_w21.out ((Below.refl _ _).alloc (Nat.le_refl _) _) RA_w21.out.lt) HO.out (Nat.ne_of_lt RA_w21.out.lt))
           have RW_w22 : Hid (VRow w22 (w9.heap.size) 51 (allB (wrK 15))) := Lib.hid (VRow.oth (VRow.below RW_w21.out ((Below.refl _ _).alloc (Nat.le_refl _) _) RW_w21.out.lt) HO.out (Nat.ne_of_lt RW_w21.out.lt))
           have RT_w22 : Hid (BRow w22 (w12.heap.size) 41 (kT)) := Lib.hid (BRow.other (BRow.below RT_w21.out ((Below.refl _ _).alloc (Nat.le_refl _) _) RT_w21.out.lt) HO.out (Nat.ne_of_lt RT_w21.out.lt))
           have RO_w22 : Hid (BRow w22 (w14.heap.size) 41 (kO)) := Lib.hid (BRow.other (BRow.below RO_w21.out ((Below.refl _ _).alloc (Nat.le_refl _) _) RO_w21.out.lt) HO.out (Nat.ne_of_lt RO_w21.out.lt))
           have R2_w22 : Hid (BRow w22 (w16.heap.size) 41 (kO)) := Lib.hid (BRow.other (BRow.below R2_w21.out ((Below.refl _ _).alloc (Nat.le_refl _) _) R2_w21.out.lt) HO.out (Nat.ne_of_lt R2_w21.out.lt))
           have RQ_w22 : Hid (BRow w22 (w19.heap.size) 41 (kQ)) := Lib.hid (BRow.other (BRow.below RQ_w21.out ((Below.refl _ _).alloc (Nat.le_refl _) _) RQ_w21.out.lt) HO.out (Nat.ne_of_lt RQ_w21.out.lt))
           have R9_w22 : Hid (BRow w22 w21.heap.size 41 (bare)) := HN
           have BB_w22 : Hid (Below w.heap.size w w22) := Lib.hid ((BB_w21.out.alloc BB_w21.out.size _).trans (HB.out.mono BB_w21.out.size))
           clear HO HB HN RZ_w21 RB_w21 RA_w21 RW_w21 RT_w21 RO_w21 R2_w21 RQ_w21 BB_w21)
        | (go_at_call 11; have hc := BB_w20; clear hc; (with_reducible refine (K7.out _).mono ?_); rintro e w21 ⟨rfl, hB⟩
           have RZ_w21 : Hid (BRow w21 (g) 41 (bare)) := Lib.hid (BRow.below RZ_w20.out hB RZ_w20.out.lt)
           have RB_w21 : Hid (BRow w21 (g2) 41 (wrK 15)) := Lib.hid (BRow.below RB_w20.out hB RB_w20.out.lt)
           have RA_w21 : Hid (VRow w21 (w2.heap.size) 51 (allB (wrK 15))) := Lib.hid (VRow.below RA_w20.out hB RA_w20.out.lt)
           have RW_w21 : Hid (VRow w21 (w9.heap.size) 51 (allB (wrK 15))) := Lib.hid (VRow.below RW_w20.out hB RW_w20.out.lt)
           have RT_w21 : Hid (BRow w21 (w12.heap.size) 41 (kT)) := Lib.hid (BRow.below RT_w20.out hB RT_w20.out.lt)
           have RO_w21 : Hid (BRow w21 (w14.heap.size) 41 (kO)) := Lib.hid (BRow.below RO_w20.out hB RO_w20.out.lt)
           have R2_w21 : Hid (BRow w21 (w16.heap.size) 41 (kO)) := Lib.hid (BRow.below R2_w20.out hB R2_w20.out.lt)
           have RQ_w21 : Hid (BRow w21 (w19.heap.size) 41 (kQ)) := Lib.hid (BRow.below RQ_w20.out hB RQ_w20.out.lt)
           have BB_w21 : Hid (Below w.heap.size w w21) := Lib.hid (BB_w20.out.trans (hB.mono BB_w20.out.size))
           clear hB RZ_w20 RB_w20 RA_w20 RW_w20 RT_w20 RO_w20 R2_w20 RQ_w20 BB_w20)
        | ((with_reducible show wpList _ _ _ (⟨some 60, .load 41 (.tmp 1), _, _, _, _⟩ :: _) _ _); refine wpList_load_b (by rfl) 41 _ rfl (g) (by exact rfl) _ Try.underlying41 (by kernel_rfl) 41 RZ_w20.out ?_)
        | ((with_reducible show wpList _ _ _ (⟨none, .store 41 (.tmp 13) (.tmp 58), _, _, _, _⟩ :: _) _ _); refine wpList_store_b  rfl 41 _ _ rfl (w19.heap.size) (by exact rfl) (by exact rfl) (by kernel_rfl) 41 (show BRow _ _ _ bare from alloc_at _ _) ?_; intro w20 HN HO HB
           have RZ_w20 : Hid (BRow w20 (g) 41 (bare)) := Lib.hid (BRow.other (BRow.below RZ_w19.out ((Below.refl _ _).alloc (Nat.le_refl _) _) RZ_w19.out.lt) HO.out (Nat.ne_of_lt RZ_w19.out.lt))
           have RB_w20 : Hid (BRow w20 (g2) 41 (wrK 15)) := Lib.hid (BRow.other (BRow.below RB_w19.out ((Below.refl _ _).alloc (Nat.le_refl _) _) RB_w19.out.lt) HO.out (Nat.ne_of_lt RB_w19.out.lt))
           have RA_w20 : Hid (VRow w20 (w2.heap.size) 51 (allB (wrK 15))) := Lib.hid (VRow.oth (VRow.below RA_w19.out ((Below.refl _ _).alloc (Nat.le_refl _) _) RA_w19.out.lt) HO.out (Nat.ne_of_lt RA_w19.out.lt))
           have RW_w20 : Hid (VRow w20 (w9.heap.size) 51 (allB (wrK 15))) := Lib.hid (VRow.oth (VRow.below RW_w19.out ((Below.refl _ _).alloc (Nat.le_refl _) _) RW_w19.out.lt) HO.out (Nat.ne_of_lt RW_w19.out.lt))
           have RT_w20 : Hid (BRow w20 (w12.heap.size) 41 (kT)) := Lib.hid (BRow.other (BRow.below RT_w19.out ((Below.refl _ _).alloc (Nat.le_refl _) _) RT_w19.out.lt) HO.out (Nat.ne_of_lt RT_w19.out.lt))
           have RO_w20 : Hid (BRow w20 (w14.heap.size) 41 (kO)) := Lib.hid (BRow.other (BRow.below RO_w19.out ((Below.refl _ _).alloc (Nat.le_refl _) _) RO_w19.out.lt) HO.out (Nat.ne_of_lt RO_w19.out.lt))
           have R2_w20 : Hid (BRow w20 (w16.heap.size) 41 (kO)) := Lib.hid (BRow.other (BRow.below R2_w19.out ((Below.refl _ _).alloc (Nat.le_refl _) _) R2_w19.out.lt) HO.out (Nat.ne_of_lt R2_w19.out.lt))
           have RQ_w20 : Hid (BRow w20 w19.heap.size 41 (kQ)) := HN
           have BB_w20 : Hid (Below w.heap.size w w20) := Lib.hid ((BB_w19.out.alloc BB_w19.out.size _).trans (HB.out.mono BB_w19.out.size))
           clear HO HB HN RZ_w19 RB_w19 RA_w19 RW_w19 RT_w19 RO_w19 R2_w19 BB_w19)
        | (go_at_call 14; have hc := BB_w18; clear hc; (with_reducible refine (K6.out _).mono ?_); rintro e w19 ⟨rfl, hB⟩
           have RZ_w19 : Hid (BRow w19 (g) 41 (bare)) := Lib.hid (BRow.below RZ_w18.out hB RZ_w18.out.lt)
           have RB_w19 : Hid (BRow w19 (g2) 41 (wrK 15)) := Lib.hid (BRow.below RB_w18.out hB RB_w18.out.lt)
           have RA_w19 : Hid (VRow w19 (w2.heap.size) 51 (allB (wrK 15))) := Lib.hid (VRow.below RA_w18.out hB RA_w18.out.lt)
           have RW_w19 : Hid (VRow w19 (w9.heap.size) 51 (allB (wrK 15))) := Lib.hid (VRow.below RW_w18.out hB RW_w18.out.lt)
           have RT_w19 : Hid (BRow w19 (w12.heap.size) 41 (kT)) := Lib.hid (BRow.below RT_w18.out hB RT_w18.out.lt)
           have RO_w19 : Hid (BRow w19 (w14.heap.size) 41 (kO)) := Lib.hid (BRow.below RO_w18.out hB RO_w18.out.lt)
           have R2_w19 : Hid (BRow w19 (w16.heap.size) 41 (kO)) := Lib.hid (BRow.below R2_w18.out hB R2_w18.out.lt)
           have BB_w19 : Hid (Below w.heap.size w w19) := Lib.hid (BB_w18.out.trans (hB.mono BB_w18.out.size))
           clear hB RZ_w18 RB_w18 RA_w18 RW_w18 RT_w18 RO_w18 R2_w18 BB_w18)
        | (go_at_call 13; have hc := BB_w17; clear hc; (with_reducible refine (K5.out _).mono ?_); rintro e w18 ⟨rfl, hB⟩
           have RZ_w18 : Hid (BRow w18 (g) 41 (bare)) := Lib.hid (BRow.below RZ_w17.out hB RZ_w17.out.lt)
           have RB_w18 : Hid (BRow w18 (g2) 41 (wrK 15)) := Lib.hid (BRow.below RB_w17.out hB RB_w17.out.lt)
           have RA_w18 : Hid (VRow w18 (w2.heap.size) 51 (allB (wrK 15))) := Lib.hid (VRow.below RA_w17.out hB RA_w17.out.lt)
           have RW_w18 : Hid (VRow w18 (w9.heap.size) 51 (allB (wrK 15))) := Lib.hid (VRow.below RW_w17.out hB RW_w17.out.lt)
           have RT_w18 : Hid (BRow w18 (w12.heap.size) 41 (kT)) := Lib.hid (BRow.below RT_w17.out hB RT_w17.out.lt)
           have RO_w18 : Hid (BRow w18 (w14.heap.size) 41 (kO)) := Lib.hid (BRow.below RO_w17.out hB RO_w17.out.lt)
           have R2_w18 : Hid (BRow w18 (w16.heap.size) 41 (kO)) := Lib.hid (BRow.below R2_w17.out hB R2_w17.out.lt)
           have BB_w18 : Hid (Below w.heap.size w w18) := Lib.hid (BB_w17.out.trans (hB.mono BB_w17.out.size))
           clear hB RZ_w17 RB_w17 RA_w17 RW_w17 RT_w17 RO_w17 R2_w17 BB_w17)
        | ((with_reducible show wpList _ _ _ (⟨some 56, .load 41 (.tmp 1), _, _, _, _⟩ :: _) _ _); refine wpList_load_b (by rfl) 41 _ rfl (g) (by exact rfl) _ Try.underlying41 (by kernel_rfl) 41 RZ_w17.out ?_)
        | ((with_reducible show wpList _ _ _ (⟨none, .store 41 (.tmp 10) (.tmp 53), _, _, _, _⟩ :: _) _ _); refine wpList_store_b  rfl 41 _ _ rfl (w16.heap.size) (by exact rfl) (by exact rfl) (by kernel_rfl) 41 (show BRow _ _ _ bare from alloc_at _ _) ?_; intro w17 HN HO HB
           have RZ_w17 : Hid (BRow w17 (g) 41 (bare)) := Lib.hid (BRow.other (BRow.below RZ_w16.out ((Below.refl _ _).alloc (Nat.le_refl _) _) RZ_w16.out.lt) HO.out (Nat.ne_of_lt RZ_w16.out.lt))
           have RB_w17 : Hid (BRow w17 (g2) 41 (wrK 15)) := Lib.hid (BRow.other (BRow.below RB_w16.out ((Below.refl _ _).alloc (Nat.le_refl _) _) RB_w16.out.lt) HO.out (Nat.ne_of_lt RB_w16.out.lt))
           have RA_w17 : Hid (VRow w17 (w2.heap.size) 51 (allB (wrK 15))) := Lib.hid (VRow.oth (VRow.below RA_w16.out ((Below.refl _ _).alloc (Nat.le_refl _) _) RA_w16.out.lt) HO.out (Nat.ne_of_lt RA_w16.out.lt))
           have RW_w17 : Hid (VRow w17 (w9.heap.size) 51 (allB (wrK 15))) := Lib.hid (VRow.oth (VRow.below RW_w16.out ((Below.refl _ _).alloc (Nat.le_refl _) _) RW_w16.out.lt) HO.out (Nat.ne_of_lt RW_w16.out.lt))
           have RT_w17 : Hid (BRow w17 (w12.heap.size) 41 (kT)) := Lib.hid (BRow.other (BRow.below RT_w16.out ((Below.refl _ _).alloc (Nat.le_refl _) _) RT_w16.out.lt) HO.out (Nat.ne_of_lt RT_w16.out.lt))
           have RO_w17 : Hid (BRow w17 (w14.heap.size) 41 (kO)) := Lib.hid (BRow.other (BRow.below RO_w16.out ((Below.refl _ _).alloc (Nat.le_refl _) _) RO_w16.out.lt) HO.out (Nat.ne_of_lt RO_w16.out.lt))
           have R2_w17 : Hid (BRow w17 w16.heap.size 41 (kO)) := HN
           have BB_w17 : Hid (Below w.heap.size w w17) := Lib.hid ((BB_w16.out.alloc BB_w16.out.size _).trans (HB.out.mono BB_w16.out.size))
           clear HO HB HN RZ_w16 RB_w16 RA_w16 RW_w16 RT_w16 RO_w16 BB_w16)
        | (go_at_call 12; have hc := BB_w15; clear hc; (with_reducible refine (K4.out _).mono ?_); rintro e w16 ⟨rfl, hB⟩
           have RZ_w16 : Hid (BRow w16 (g) 41 (bare)) := Lib.hid (BRow.below RZ_w15.out hB RZ_w15.out.lt)
           have RB_w16 : Hid (BRow w16 (g2) 41 (wrK 15)) := Lib.hid (BRow.below RB_w15.out hB RB_w15.out.lt)
           have RA_w16 : Hid (VRow w16 (w2.heap.size) 51 (allB (wrK 15))) := Lib.hid (VRow.below RA_w15.out hB RA_w15.out.lt)
           have RW_w16 : Hid (VRow w16 (w9.heap.size) 51 (allB (wrK 15))) := Lib.hid (VRow.below RW_w15.out hB RW_w15.out.lt)
           have RT_w16 : Hid (BRow w16 (w12.heap.size) 41 (kT)) := Lib.hid (BRow.below RT_w15.out hB RT_w15.out.lt)
           have RO_w16 : Hid (BRow w16 (w14.heap.size) 41 (kO)) := Lib.hid (BRow.below RO_w15.out hB RO_w15.out.lt)
           have BB_w16 : Hid (Below w.heap.size w w16) := Lib.hid (BB_w15.out.trans (hB.mono BB_w15.out.size))
           clear hB RZ_w15 RB_w15 RA_w15 RW_w15 RT_w15 RO_w15 BB_w15)
        | ((with_reducible show wpList _ _ _ (⟨some 51, .load 41 (.tmp 7), _, _, _, _⟩ :: _) _ _); refine wpList_load_b (by rfl) 41 _ rfl (w14.heap.size) (by exact rfl) _ Try.underlying41 (by kernel_rfl) 41 RO_w15.out ?_)
        | ((with_reducible show wpList _ _ _ (⟨none, .store 41 (.tmp 7) (.tmp 47), _, _, _, _⟩ :: _) _ _); refine wpList_store_b  rfl 41 _ _ rfl (w14.heap.size) (by exact rfl) (by exact rfl) (by kernel_rfl) 41 (show BRow _ _ _ bare from alloc_at _ _) ?_; intro w15 HN HO HB
           have RZ_w15 : Hid (BRow w15 (g) 41 (bare)) := Lib.hid (BRow.other (BRow.below RZ_w14.out ((Below.refl _ _).alloc (Nat.le_refl _) _) RZ_w14.out.lt) HO.out (Nat.ne_of_lt RZ_w14.out.lt))
           have RB_w15 : Hid (BRow w15 (g2) 41 (wrK 15)) := Lib.hid (BRow.other (BRow.below RB_w14.out ((Below.refl _ _).alloc (Nat.le_refl _) _) RB_w14.out.lt) HO.out (Nat.ne_of_lt RB_w14.out.lt))
           have RA_w15 : Hid (VRow w15 (w2.heap.size) 51 (allB (wrK 15))) := Lib.hid (VRow.oth (VRow.below RA_w14.out ((Below.refl _ _).alloc (Nat.le_refl _) _) RA_w14.out.lt) HO.out (Nat.ne_of_lt RA_w14.out.lt))
           have RW_w15 : Hid (VRow w15 (w9.heap.size) 51 (allB (wrK 15))) := Lib.hid (VRow.oth (VRow.below RW_w14.out ((Below.refl _ _).alloc (Nat.le_refl _) _) RW_w14.out.lt) HO.out (Nat.ne_of_lt RW_w14.out.lt))
           have RT_w15 : Hid (BRow w15 (w12.heap.size) 41 (kT)) := Lib.hid (BRow.other (BRow.below RT_w14.out ((Below.refl _ _).alloc (Nat.le_refl _) _) RT_w14.out.lt) HO.out (Nat.ne_of_lt RT_w14.out.lt))
           have RO_w15 : Hid (BRow w15 w14.heap.size 41 (kO)) := HN
           have BB_w15 : Hid (Below w.heap.size w w15) := Lib.hid ((BB_w14.out.alloc BB_w14.out.size _).trans (HB.out.mono BB_w14.out.size))
           clear HO HB HN RZ_w14 RB_w14 RA_w14 RW_w14 RT_w14 BB_w14)
        | (go_at_call 12; have hc := BB_w13; clear hc; (with_reducible refine (K3.out _).mono ?_); rintro e w14 ⟨rfl, hB⟩
           have RZ_w14 : Hid (BRow w14 (g) 41 (bare)) := Lib.hid (BRow.below RZ_w13.out hB RZ_w13.out.lt)
           have RB_w14 : Hid (BRow w14 (g2) 41 (wrK 15)) := Lib.hid (BRow.below RB_w13.out hB RB_w13.out.lt)
           have RA_w14 : Hid (VRow w14 (w2.heap.size) 51 (allB (wrK 15))) := Lib.hid (VRow.below RA_w13.out hB RA_w13.out.lt)
           have RW_w14 : Hid (VRow w14 (w9.heap.size) 51 (allB (wrK 15))) := Lib.hid (VRow.below RW_w13.out hB RW_w13.out.lt)
           have RT_w14 : Hid (BRow w14 (w12.heap.size) 41 (kT)) := Lib.hid (BRow.below RT_w13.out hB RT_w13.out.lt)
           have BB_w14 : Hid (Below w.heap.size w w14) := Lib.hid (BB_w13.out.trans (hB.mono BB_w13.out.size))
           clear hB RZ_w13 RB_w13 RA_w13 RW_w13 RT_w13 BB_w13)
        | ((with_reducible show wpList _ _ _ (⟨some 45, .load 41 (.tmp 6), _, _, _, _⟩ :: _) _ _); refine wpList_load_b (by rfl) 41 _ rfl (w12.heap.size) (by exact rfl) _ Try.underlying41 (by kernel_rfl) 41 RT_w13.out ?_)
        | ((with_reducible show wpList _ _ _ (⟨none, .store 41 (.tmp 6) (.tmp 43), _, _, _, _⟩ :: _) _ _); refine wpList_store_b  rfl 41 _ _ rfl (w12.heap.size) (by exact rfl) (by exact rfl) (by kernel_rfl) 41 (show BRow _ _ _ bare from alloc_at _ _) ?_; intro w13 HN HO HB
           have RZ_w13 : Hid (BRow w13 (g) 41 (bare)) := Lib.hid (BRow.other (BRow.below RZ_w12.out ((Below.refl _ _).alloc (Nat.le_refl _) _) RZ_w12.out.lt) HO.out (Nat.ne_of_lt RZ_w12.out.lt))
           have RB_w13 : Hid (BRow w13 (g2) 41 (wrK 15)) := Lib.hid (BRow.other (BRow.below RB_w12.out ((Below.refl _ _).alloc (Nat.le_refl _) _) RB_w12.out.lt) HO.out (Nat.ne_of_lt RB_w12.out.lt))
           have RA_w13 : Hid (VRow w13 (w2.heap.size) 51 (allB (wrK 15))) := Lib.hid (VRow.oth (VRow.below RA_w12.out ((Below.refl _ _).alloc (Nat.le_refl _) _) RA_w12.out.lt) HO.out (Nat.ne_of_lt RA_w12.out.lt))
           have RW_w13 : Hid (VRow w13 (w9.heap.size) 51 (allB (wrK 15))) := Lib.hid (VRow.oth (VRow.below RW_w12.out ((Below.refl _ _).alloc (Nat.le_refl _) _) RW_w12.out.lt) HO.out (Nat.ne_of_lt RW_w12.out.lt))
           have RT_w13 : Hid (BRow w13 w12.heap.size 41 (kT)) := HN
           have BB_w13 : Hid (Below w.heap.size w w13) := Lib.hid ((BB_w12.out.alloc BB_w12.out.size _).trans (HB.out.mono BB_w12.out.size))
           clear HO HB HN RZ_w12 RB_w12 RA_w12 RW_w12 BB_w12)
        | (go_at_call 10; have hc := BB_w11; clear hc; (with_reducible refine (K2.out _).mono ?_); rintro e w12 ⟨rfl, hB⟩
           have RZ_w12 : Hid (BRow w12 (g) 41 (bare)) := Lib.hid (BRow.below RZ_w11.out hB RZ_w11.out.lt)
           have RB_w12 : Hid (BRow w12 (g2) 41 (wrK 15)) := Lib.hid (BRow.below RB_w11.out hB RB_w11.out.lt)
           have RA_w12 : Hid (VRow w12 (w2.heap.size) 51 (allB (wrK 15))) := Lib.hid (VRow.below RA_w11.out hB RA_w11.out.lt)
           have RW_w12 : Hid (VRow w12 (w9.heap.size) 51 (allB (wrK 15))) := Lib.hid (VRow.below RW_w11.out hB RW_w11.out.lt)
           have BB_w12 : Hid (Below w.heap.size w w12) := Lib.hid (BB_w11.out.trans (hB.mono BB_w11.out.size))
           clear hB RZ_w11 RB_w11 RA_w11 RW_w11 BB_w11)
        | (go_at_call 10; have hc := BB_w10; clear hc; (with_reducible refine (K1.out _).mono ?_); rintro e w11 ⟨rfl, hB⟩
           have RZ_w11 : Hid (BRow w11 (g) 41 (bare)) := Lib.hid (BRow.below RZ_w10.out hB RZ_w10.out.lt)
           have RB_w11 : Hid (BRow w11 (g2) 41 (wrK 15)) := Lib.hid (BRow.below RB_w10.out hB RB_w10.out.lt)
           have RA_w11 : Hid (VRow w11 (w2.heap.size) 51 (allB (wrK 15))) := Lib.hid (VRow.below RA_w10.out hB RA_w10.out.lt)
           have RW_w11 : Hid (VRow w11 (w9.heap.size) 51 (allB (wrK 15))) := Lib.hid (VRow.below RW_w10.out hB RW_w10.out.lt)
           have BB_w11 : Hid (Below w.heap.size w w11) := Lib.hid (BB_w10.out.trans (hB.mono BB_w10.out.size))
           clear hB RZ_w10 RB_w10 RA_w10 RW_w10 BB_w10)
        | ((with_reducible show wpList _ _ _ (⟨some 41, .load 41 (.tmp 1), _, _, _, _⟩ :: _) _ _); refine wpList_load_b (by rfl) 41 _ rfl (g) (by exact rfl) _ Try.underlying41 (by kernel_rfl) 41 RZ_w10.out ?_)
        | ((with_reducible show wpList _ _ _ (⟨none, .store 51 (.tmp 5) (.tmp 40), _, _, _, _⟩ :: _) _ _); refine wpList_store_v rfl 51 _ _ rfl (w9.heap.size) (by exact rfl) (allB (wrK 15)) (by rw [← want_all]; rfl) (by rw [all_length]; kernel_rfl) (all_one _) 51 zero15 (alloc_at _ _) (by rw [all_length]; rfl) ?_; intro w10 HN HO HB
           have RZ_w10 : Hid (BRow w10 (g) 41 (bare)) := Lib.hid (BRow.other (BRow.below RZ_w9.out ((Below.refl _ _).alloc (Nat.le_refl _) _) RZ_w9.out.lt) HO.out (Nat.ne_of_lt RZ_w9.out.lt))
           have RB_w10 : Hid (BRow w10 (g2) 41 (wrK 15)) := Lib.hid (BRow.other (BRow.below RB_w9.out ((Below.refl _ _).alloc (Nat.le_refl _) _) RB_w9.out.lt) HO.out (Nat.ne_of_lt RB_w9.out.lt))
           have RA_w10 : Hid (VRow w10 (w2.heap.size) 51 (allB (wrK 15))) := Lib.hid (VRow.oth (VRow.below RA_w9.out ((Below.refl _ _).alloc (Nat.le_refl _) _) RA_w9.out.lt) HO.out (Nat.ne_of_lt RA_w9.out.lt))
           have RW_w10 : Hid (VRow w10 w9.heap.size 51 (allB (wrK 15))) := HN
           have BB_w10 : Hid (Below w.heap.size w w10) := Lib.hid ((BB_w9.out.alloc BB_w9.out.size _).trans (HB.out.mono BB_w9.out.size))
           clear HO HB HN RZ_w9 RB_w9 RA_w9 BB_w9)
        | (go_at_call 16; have hc := BB_w8; clear hc; (with_reducible refine (low_70014 _).mono ?_); rintro e w9 ⟨rfl, hB⟩
           have RZ_w9 : Hid (BRow w9 (g) 41 (bare)) := Lib.hid (BRow.below RZ_w8.out hB RZ_w8.out.lt)
           have RB_w9 : Hid (BRow w9 (g2) 41 (wrK 15)) := Lib.hid (BRow.below RB_w8.out hB RB_w8.out.lt)
           have RA_w9 : Hid (VRow w9 (w2.heap.size) 51 (allB (wrK 15))) := Lib.hid (VRow.below RA_w8.out hB RA_w8.out.lt)
           have BB_w9 : Hid (Below w.heap.size w w9) := Lib.hid (BB_w8.out.trans (hB.mono BB_w8.out.size))
           clear hB RZ_w8 RB_w8 RA_w8 BB_w8)
        | (go_at_call 16; have hc := BB_w7; clear hc; (with_reducible refine (low_70013 _).mono ?_); rintro e w8 ⟨rfl, hB⟩
           have RZ_w8 : Hid (BRow w8 (g) 41 (bare)) := Lib.hid (BRow.below RZ_w7.out hB RZ_w7.out.lt)
           have RB_w8 : Hid (BRow w8 (g2) 41 (wrK 15)) := Lib.hid (BRow.below RB_w7.out hB RB_w7.out.lt)
           have RA_w8 : Hid (VRow w8 (w2.heap.size) 51 (allB (wrK 15))) := Lib.hid (VRow.below RA_w7.out hB RA_w7.out.lt)
           have BB_w8 : Hid (Below w.heap.size w w8) := Lib.hid (BB_w7.out.trans (hB.mono BB_w7.out.size))
           clear hB RZ_w7 RB_w7 RA_w7 BB_w7)
        | (go_at_call 16; have hc := BB_w6; clear hc; (with_reducible refine (low_70012 _).mono ?_); rintro e w7 ⟨rfl, hB⟩
           have RZ_w7 : Hid (BRow w7 (g) 41 (bare)) := Lib.hid (BRow.below RZ_w6.out hB RZ_w6.out.lt)
           have RB_w7 : Hid (BRow w7 (g2) 41 (wrK 15)) := Lib.hid (BRow.below RB_w6.out hB RB_w6.out.lt)
           have RA_w7 : Hid (VRow w7 (w2.heap.size) 51 (allB (wrK 15))) := Lib.hid (VRow.below RA_w6.out hB RA_w6.out.lt)
           have BB_w7 : Hid (Below w.heap.size w w7) := Lib.hid (BB_w6.out.trans (hB.mono BB_w6.out.size))
           clear hB RZ_w6 RB_w6 RA_w6 BB_w6)
        | (go_at_call 16; have hc := BB_w5; clear hc; (with_reducible refine (low_70005 _).mono ?_); rintro e w6 ⟨rfl, hB⟩
           have RZ_w6 : Hid (BRow w6 (g) 41 (bare)) := Lib.hid (BRow.below RZ_w5.out hB RZ_w5.out.lt)
           have RB_w6 : Hid (BRow w6 (g2) 41 (wrK 15)) := Lib.hid (BRow.below RB_w5.out hB RB_w5.out.lt)
           have RA_w6 : Hid (VRow w6 (w2.heap.size) 51 (allB (wrK 15))) := Lib.hid (VRow.below RA_w5.out hB RA_w5.out.lt)
           have BB_w6 : Hid (Below w.heap.size w w6) := Lib.hid (BB_w5.out.trans (hB.mono BB_w5.out.size))
           clear hB RZ_w5 RB_w5 RA_w5 BB_w5)
        | (go_at_call 16; have hc := BB_w4; clear hc; (with_reducible refine (low_70002 _).mono ?_); rintro e w5 ⟨rfl, hB⟩
           have RZ_w5 : Hid (BRow w5 (g) 41 (bare)) := Lib.hid (BRow.below RZ_w4.out hB RZ_w4.out.lt)
           have RB_w5 : Hid (BRow w5 (g2) 41 (wrK 15)) := Lib.hid (BRow.below RB_w4.out hB RB_w4.out.lt)
           have RA_w5 : Hid (VRow w5 (w2.heap.size) 51 (allB (wrK 15))) := Lib.hid (VRow.below RA_w4.out hB RA_w4.out.lt)
           have BB_w5 : Hid (Below w.heap.size w w5) := Lib.hid (BB_w4.out.trans (hB.mono BB_w4.out.size))
           clear hB RZ_w4 RB_w4 RA_w4 BB_w4)
        | (go_at_call 16; have hc := BB_w3; clear hc; (with_reducible refine (low_70000 _).mono ?_); rintro e w4 ⟨rfl, hB⟩
           have RZ_w4 : Hid (BRow w4 (g) 41 (bare)) := Lib.hid (BRow.below RZ_w3.out hB RZ_w3.out.lt)
           have RB_w4 : Hid (BRow w4 (g2) 41 (wrK 15)) := Lib.hid (BRow.below RB_w3.out hB RB_w3.out.lt)
           have RA_w4 : Hid (VRow w4 (w2.heap.size) 51 (allB (wrK 15))) := Lib.hid (VRow.below RA_w3.out hB RA_w3.out.lt)
           have BB_w4 : Hid (Below w.heap.size w w4) := Lib.hid (BB_w3.out.trans (hB.mono BB_w3.out.size))
           clear hB RZ_w3 RB_w3 RA_w3 BB_w3)
        | ((with_reducible show wpList _ _ _ (⟨none, .store 51 (.tmp 4) (.tmp 32), _, _, _, _⟩ :: _) _ _); refine wpList_store_v rfl 51 _ _ rfl (w2.heap.size) (by exact rfl) (allB (wrK 15)) (by exact rfl) (by rw [all_length]; kernel_rfl) (all_one _) 51 zero15 (alloc_at _ _) (by rw [all_length]; rfl) ?_; intro w3 HN HO HB
           have RZ_w3 : Hid (BRow w3 (g) 41 (bare)) := Lib.hid (BRow.other (BRow.below RZ_w2.out ((Below.refl _ _).alloc (Nat.le_refl _) _) RZ_w2.out.lt) HO.out (Nat.ne_of_lt RZ_w2.out.lt))
           have RB_w3 : Hid (BRow w3 (g2) 41 (wrK 15)) := Lib.hid (BRow.other (BRow.below RB_w2.out ((Below.refl _ _).alloc (Nat.le_refl _) _) RB_w2.out.lt) HO.out (Nat.ne_of_lt RB_w2.out.lt))
           have RA_w3 : Hid (VRow w3 w2.heap.size 51 (allB (wrK 15))) := HN
           have BB_w3 : Hid (Below w.heap.size w w3) := Lib.hid ((BB_w2.out.alloc BB_w2.out.size _).trans (HB.out.mono BB_w2.out.size))
           clear HO HB HN RZ_w2 RB_w2 BB_w2)
        | (go_at_call 15; have hc := BB_u; clear hc; (with_reducible refine (KA.out _).mono ?_); rintro e w2 ⟨rfl, hB⟩
           have RZ_w2 : Hid (BRow w2 (g) 41 (bare)) := Lib.hid (BRow.below RZ_u.out hB RZ_u.out.lt)
           have RB_w2 : Hid (BRow w2 (g2) 41 (wrK 15)) := Lib.hid (BRow.below RB_u.out hB RB_u.out.lt)
           have BB_w2 : Hid (Below w.heap.size w w2) := Lib.hid (BB_u.out.trans (hB.mono BB_u.out.size))
           clear hB RZ_u RB_u BB_u)
        | ((with_reducible show wpList _ _ _ (⟨some 31, .load 41 (.tmp 2), _, _, _, _⟩ :: _) _ _); refine wpList_load_b (by rfl) 41 _ rfl (g2) (by exact rfl) _ Try.underlying41 (by kernel_rfl) 41 RB_u.out ?_))
      go_wp2_with fail
      go_loopw [17] (fun iv wx => ∃ k : Nat, k ≤ 9 ∧ iv = .int .i64 (k : Int) ∧ (BRow wx (g) 41 (bare) ∧ VRow wx (w2.heap.size) 51 (allB (wrK 15)) ∧ VRow wx (w9.heap.size) 51 (allB (wrK 15)) ∧ BRow wx (w12.heap.size) 41 (kT) ∧ BRow wx (w14.heap.size) 41 (kO) ∧ BRow wx (w16.heap.size) 41 (kO) ∧ BRow wx (w19.heap.size) 41 (kQ) ∧ BRow wx (w21.heap.size) 41 (bare)) ∧ BRow wx (w22.heap.size) 41 (arK k) ∧ Below w.heap.size w wx) (fun iv _ => 9 - (intOf iv).toNat)
      case atStart => exact ⟨0, by omega, rfl, ⟨RZ_w23.out, RA_w23.out, RW_w23.out, RT_w23.out, RO_w23.out, R2_w23.out, RQ_w23.out, R9_w23.out⟩, RF_w23.out, BB_w23.out⟩
      case round =>
        clear RZ_w23 RB_w23 RA_w23 RW_w23 RT_w23 RO_w23 R2_w23 RQ_w23 R9_w23 RF_w23 BB_w23
        obtain ⟨k, hk, rfl, ⟨qRZ, qRA, qRW, qRT, qRO, qR2, qRQ, qR9⟩, qf, qb⟩ := hrel
        obtain ⟨y, hy⟩ : ∃ W, wr = W := ⟨_, rfl⟩
        rw [hy] at qf qb qRZ qRA qRW qRT qRO qR2 qRQ qR9 ⊢
        clear hy
        have RZ_y := Lib.hid qRZ
        have RA_y := Lib.hid qRA
        have RW_y := Lib.hid qRW
        have RT_y := Lib.hid qRT
        have RO_y := Lib.hid qRO
        have R2_y := Lib.hid qR2
        have RQ_y := Lib.hid qRQ
        have R9_y := Lib.hid qR9
        have RF_y := Lib.hid qf
        have BB_y := Lib.hid qb
        clear qf qb qRZ qRA qRW qRT qRO qR2 qRQ qR9
        by_cases hlt : k < 9
        · have hki : (k : Int) < 9 := by omega
          have HLT := Lib.hid hlt
          have KX : Hid (∀ W : World, Calls Try.prog 14 #[bv (arK k), .int .u8 (k : Int)] W fun e w' => e = .returned (bv (arK (k + 1))) ∧ Below W.heap.size W w') := Lib.hid (fun W => by
            have h := H.arrive (arK k) k W (arK_ok k) (by omega)
            have e : arriveB (arK k) k = arK (k + 1) := by rw [arK, Nat.mod_eq_of_lt (by omega)]
            rw [e] at h
            exact h)
          clear hlt
          go_wp2_with (first
            | ((with_reducible show wpList _ _ _ (⟨none, .store 41 (.tmp 16) (.tmp 72), _, _, _, _⟩ :: _) _ _); refine wpList_store_b rfl 41 _ _ rfl (w22.heap.size) (by exact rfl) (by exact rfl) (by kernel_rfl) 41 RF_y1.out ?_; intro y2 HN HO HB
               have RZ_y2 : Hid (BRow y2 (g) 41 (bare)) := Lib.hid (BRow.other RZ_y1.out HO.out (NE_RZ_RF.out))
               have RA_y2 : Hid (VRow y2 (w2.heap.size) 51 (allB (wrK 15))) := Lib.hid (VRow.oth RA_y1.out HO.out (NE_RA_RF.out))
               have RW_y2 : Hid (VRow y2 (w9.heap.size) 51 (allB (wrK 15))) := Lib.hid (VRow.oth RW_y1.out HO.out (NE_RW_RF.out))
               have RT_y2 : Hid (BRow y2 (w12.heap.size) 41 (kT)) := Lib.hid (BRow.other RT_y1.out HO.out (NE_RT_RF.out))
               have RO_y2 : Hid (BRow y2 (w14.heap.size) 41 (kO)) := Lib.hid (BRow.other RO_y1.out HO.out (NE_RO_RF.out))
               have R2_y2 : Hid (BRow y2 (w16.heap.size) 41 (kO)) := Lib.hid (BRow.other R2_y1.out HO.out (NE_R2_RF.out))
               have RQ_y2 : Hid (BRow y2 (w19.heap.size) 41 (kQ)) := Lib.hid (BRow.other RQ_y1.out HO.out (NE_RQ_RF.out))
               have R9_y2 : Hid (BRow y2 (w21.heap.size) 41 (bare)) := Lib.hid (BRow.other R9_y1.out HO.out (NE_R9_RF.out))
               have RF_y2 : Hid (BRow y2 (w22.heap.size) 41 (arK (k + 1))) := HN
               have BB_y2 : Hid (Below w.heap.size w y2) := Lib.hid (BB_y1.out.trans (HB.out.mono LE_RF.out))
               clear HO HB HN RZ_y1 RA_y1 RW_y1 RT_y1 RO_y1 R2_y1 RQ_y1 R9_y1 RF_y1 BB_y1)
            | (go_at_call 14; have hc := BB_y; clear hc; (with_reducible refine (KX.out _).mono ?_); rintro e y1 ⟨rfl, hB⟩
               have RZ_y1 : Hid (BRow y1 (g) 41 (bare)) := Lib.hid (BRow.below RZ_y.out hB RZ_y.out.lt)
               have RA_y1 : Hid (VRow y1 (w2.heap.size) 51 (allB (wrK 15))) := Lib.hid (VRow.below RA_y.out hB RA_y.out.lt)
               have RW_y1 : Hid (VRow y1 (w9.heap.size) 51 (allB (wrK 15))) := Lib.hid (VRow.below RW_y.out hB RW_y.out.lt)
               have RT_y1 : Hid (BRow y1 (w12.heap.size) 41 (kT)) := Lib.hid (BRow.below RT_y.out hB RT_y.out.lt)
               have RO_y1 : Hid (BRow y1 (w14.heap.size) 41 (kO)) := Lib.hid (BRow.below RO_y.out hB RO_y.out.lt)
               have R2_y1 : Hid (BRow y1 (w16.heap.size) 41 (kO)) := Lib.hid (BRow.below R2_y.out hB R2_y.out.lt)
               have RQ_y1 : Hid (BRow y1 (w19.heap.size) 41 (kQ)) := Lib.hid (BRow.below RQ_y.out hB RQ_y.out.lt)
               have R9_y1 : Hid (BRow y1 (w21.heap.size) 41 (bare)) := Lib.hid (BRow.below R9_y.out hB R9_y.out.lt)
               have RF_y1 : Hid (BRow y1 (w22.heap.size) 41 (arK k)) := Lib.hid (BRow.below RF_y.out hB RF_y.out.lt)
               have BB_y1 : Hid (Below w.heap.size w y1) := Lib.hid (BB_y.out.trans (hB.mono BB_y.out.size))
               clear hB RZ_y RA_y RW_y RT_y RO_y R2_y RQ_y R9_y RF_y BB_y)
            | ((with_reducible show wpList _ _ _ (⟨some 69, .load 41 (.tmp 16), _, _, _, _⟩ :: _) _ _); refine wpList_load_b (by rfl) 41 _ rfl (w22.heap.size) (by exact rfl) _ Try.underlying41 (by kernel_rfl) 41 RF_y.out ?_))
          go_roundw
          case rel => exact ⟨k + 1, by have := HLT.out; omega, by go_num, ⟨RZ_y2.out, RA_y2.out, RW_y2.out, RT_y2.out, RO_y2.out, R2_y2.out, RQ_y2.out, R9_y2.out⟩, RF_y2.out, BB_y2.out⟩
          case measure =>
            simp [intOf]
            have := HLT.out
            (try omega)
        · obtain rfl : k = 9 := by omega
          have d3 : ¬ (9 : Int) < 9 := by omega
          have d4 : ¬ ((9 : Nat) : Int) < 9 := by omega
          clear hlt hk
          replace RF_y : Hid (BRow y (w22.heap.size) 41 kF) := RF_y
          go_upto_region 20 with (first
            | ((with_reducible show wpList _ _ _ (⟨none, .store 41 (.tmp 19) (.tmp 77), _, _, _, _⟩ :: _) _ _); refine wpList_store_b  rfl 41 _ _ rfl (w24.heap.size) (by exact rfl) (by exact rfl) (by kernel_rfl) 41 (show BRow _ _ _ bare from alloc_at _ _) ?_; intro w25 HN HO HB
               have RZ_w25 : Hid (BRow w25 (g) 41 (bare)) := Lib.hid (BRow.other (BRow.below RZ_w24.out ((Below.refl _ _).alloc (Nat.le_refl _) _) RZ_w24.out.lt) HO.out (Nat.ne_of_lt RZ_w24.out.lt))
               have RA_w25 : Hid (VRow w25 (w2.heap.size) 51 (allB (wrK 15))) := Lib.hid (VRow.oth (VRow.below RA_w24.out ((Below.refl _ _).alloc (Nat.le_refl _) _) RA_w24.out.lt) HO.out (Nat.ne_of_lt RA_w24.out.lt))
               have RW_w25 : Hid (VRow w25 (w9.heap.size) 51 (allB (wrK 15))) := Lib.hid (VRow.oth (VRow.below RW_w24.out ((Below.refl _ _).alloc (Nat.le_refl _) _) RW_w24.out.lt) HO.out (Nat.ne_of_lt RW_w24.out.lt))
               have RT_w25 : Hid (BRow w25 (w12.heap.size) 41 (kT)) := Lib.hid (BRow.other (BRow.below RT_w24.out ((Below.refl _ _).alloc (Nat.le_refl _) _) RT_w24.out.lt) HO.out (Nat.ne_of_lt RT_w24.out.lt))
               have RO_w25 : Hid (BRow w25 (w14.heap.size) 41 (kO)) := Lib.hid (BRow.other (BRow.below RO_w24.out ((Below.refl _ _).alloc (Nat.le_refl _) _) RO_w24.out.lt) HO.out (Nat.ne_of_lt RO_w24.out.lt))
               have R2_w25 : Hid (BRow w25 (w16.heap.size) 41 (kO)) := Lib.hid (BRow.other (BRow.below R2_w24.out ((Below.refl _ _).alloc (Nat.le_refl _) _) R2_w24.out.lt) HO.out (Nat.ne_of_lt R2_w24.out.lt))
               have RQ_w25 : Hid (BRow w25 (w19.heap.size) 41 (kQ)) := Lib.hid (BRow.other (BRow.below RQ_w24.out ((Below.refl _ _).alloc (Nat.le_refl _) _) RQ_w24.out.lt) HO.out (Nat.ne_of_lt RQ_w24.out.lt))
               have R9_w25 : Hid (BRow w25 (w21.heap.size) 41 (bare)) := Lib.hid (BRow.other (BRow.below R9_w24.out ((Below.refl _ _).alloc (Nat.le_refl _) _) R9_w24.out.lt) HO.out (Nat.ne_of_lt R9_w24.out.lt))
               have RF_w25 : Hid (BRow w25 (w22.heap.size) 41 (kF)) := Lib.hid (BRow.other (BRow.below RF_w24.out ((Below.refl _ _).alloc (Nat.le_refl _) _) RF_w24.out.lt) HO.out (Nat.ne_of_lt RF_w24.out.lt))
               have RL_w25 : Hid (BRow w25 w24.heap.size 41 (kL)) := HN
               have BB_w25 : Hid (Below w.heap.size w w25) := Lib.hid ((BB_w24.out.alloc BB_w24.out.size _).trans (HB.out.mono BB_w24.out.size))
               clear HO HB HN RZ_w24 RA_w24 RW_w24 RT_w24 RO_w24 R2_w24 RQ_w24 R9_w24 RF_w24 BB_w24)
            | (go_at_call 11; have hc := BB_y; clear hc; (with_reducible refine (K8.out _).mono ?_); rintro e w24 ⟨rfl, hB⟩
               have RZ_w24 : Hid (BRow w24 (g) 41 (bare)) := Lib.hid (BRow.below RZ_y.out hB RZ_y.out.lt)
               have RA_w24 : Hid (VRow w24 (w2.heap.size) 51 (allB (wrK 15))) := Lib.hid (VRow.below RA_y.out hB RA_y.out.lt)
               have RW_w24 : Hid (VRow w24 (w9.heap.size) 51 (allB (wrK 15))) := Lib.hid (VRow.below RW_y.out hB RW_y.out.lt)
               have RT_w24 : Hid (BRow w24 (w12.heap.size) 41 (kT)) := Lib.hid (BRow.below RT_y.out hB RT_y.out.lt)
               have RO_w24 : Hid (BRow w24 (w14.heap.size) 41 (kO)) := Lib.hid (BRow.below RO_y.out hB RO_y.out.lt)
               have R2_w24 : Hid (BRow w24 (w16.heap.size) 41 (kO)) := Lib.hid (BRow.below R2_y.out hB R2_y.out.lt)
               have RQ_w24 : Hid (BRow w24 (w19.heap.size) 41 (kQ)) := Lib.hid (BRow.below RQ_y.out hB RQ_y.out.lt)
               have R9_w24 : Hid (BRow w24 (w21.heap.size) 41 (bare)) := Lib.hid (BRow.below R9_y.out hB R9_y.out.lt)
               have RF_w24 : Hid (BRow w24 (w22.heap.size) 41 (kF)) := Lib.hid (BRow.below RF_y.out hB RF_y.out.lt)
               have BB_w24 : Hid (Below w.heap.size w w24) := Lib.hid (BB_y.out.trans (hB.mono BB_y.out.size))
               clear hB RZ_y RA_y RW_y RT_y RO_y R2_y RQ_y R9_y RF_y BB_y)
            | ((with_reducible show wpList _ _ _ (⟨some 74, .load 41 (.tmp 16), _, _, _, _⟩ :: _) _ _); refine wpList_load_b (by rfl) 41 _ rfl (w22.heap.size) (by exact rfl) _ Try.underlying41 (by kernel_rfl) 41 RF_y.out ?_))
          simp only [List.append_eq, List.cons_append, List.nil_append]
          have gg1 := fun (op : BinOp) (x y : Operand) (p q : Array Value) (W : World) => guard_all W op x y p q
          have gg2 := fun (op : BinOp) (x y : Operand) (b d : Bk) (W : World) => guard_bv W op x y b d
          have ge1 := fun (W : World) => eql_all W (wrK 15)
          have ge2 := fun (W : World) => eql_b W kO
          have ge3 := fun (W : World) => eql_b W bare
          go_wp2_with (first
            | (go_at_call 9; have hc := BB_w33; clear hc; (with_reducible refine (K18.out _).mono ?_); rintro e w34 ⟨rfl, hB⟩
               have RZ_w34 : Hid (BRow w34 (g) 41 (bare)) := Lib.hid (BRow.below RZ_w33.out hB RZ_w33.out.lt)
               have RA_w34 : Hid (VRow w34 (w2.heap.size) 51 (allB (wrK 15))) := Lib.hid (VRow.below RA_w33.out hB RA_w33.out.lt)
               have RW_w34 : Hid (VRow w34 (w9.heap.size) 51 (allB (wrK 15))) := Lib.hid (VRow.below RW_w33.out hB RW_w33.out.lt)
               have RT_w34 : Hid (BRow w34 (w12.heap.size) 41 (kT)) := Lib.hid (BRow.below RT_w33.out hB RT_w33.out.lt)
               have RO_w34 : Hid (BRow w34 (w14.heap.size) 41 (kO)) := Lib.hid (BRow.below RO_w33.out hB RO_w33.out.lt)
               have R2_w34 : Hid (BRow w34 (w16.heap.size) 41 (kO)) := Lib.hid (BRow.below R2_w33.out hB R2_w33.out.lt)
               have RQ_w34 : Hid (BRow w34 (w19.heap.size) 41 (kQ)) := Lib.hid (BRow.below RQ_w33.out hB RQ_w33.out.lt)
               have R9_w34 : Hid (BRow w34 (w21.heap.size) 41 (bare)) := Lib.hid (BRow.below R9_w33.out hB R9_w33.out.lt)
               have RF_w34 : Hid (BRow w34 (w22.heap.size) 41 (kF)) := Lib.hid (BRow.below RF_w33.out hB RF_w33.out.lt)
               have RL_w34 : Hid (BRow w34 (w24.heap.size) 41 (kL)) := Lib.hid (BRow.below RL_w33.out hB RL_w33.out.lt)
               have BB_w34 : Hid (Below w.heap.size w w34) := Lib.hid (BB_w33.out.trans (hB.mono BB_w33.out.size))
               clear hB RZ_w33 RA_w33 RW_w33 RT_w33 RO_w33 R2_w33 RQ_w33 R9_w33 RF_w33 RL_w33 BB_w33)
            | ((with_reducible show wpList _ _ _ (⟨some 140, .load 41 (.tmp 1), _, _, _, _⟩ :: _) _ _); refine wpList_load_b (by kernel_rfl) 41 _ rfl (g) (by exact rfl) _ Try.underlying41 (by kernel_rfl) 41 RZ_w33.out ?_)
            | (go_at_call 9; have hc := BB_w32; clear hc; (with_reducible refine (K17.out _).mono ?_); rintro e w33 ⟨rfl, hB⟩
               have RZ_w33 : Hid (BRow w33 (g) 41 (bare)) := Lib.hid (BRow.below RZ_w32.out hB RZ_w32.out.lt)
               have RA_w33 : Hid (VRow w33 (w2.heap.size) 51 (allB (wrK 15))) := Lib.hid (VRow.below RA_w32.out hB RA_w32.out.lt)
               have RW_w33 : Hid (VRow w33 (w9.heap.size) 51 (allB (wrK 15))) := Lib.hid (VRow.below RW_w32.out hB RW_w32.out.lt)
               have RT_w33 : Hid (BRow w33 (w12.heap.size) 41 (kT)) := Lib.hid (BRow.below RT_w32.out hB RT_w32.out.lt)
               have RO_w33 : Hid (BRow w33 (w14.heap.size) 41 (kO)) := Lib.hid (BRow.below RO_w32.out hB RO_w32.out.lt)
               have R2_w33 : Hid (BRow w33 (w16.heap.size) 41 (kO)) := Lib.hid (BRow.below R2_w32.out hB R2_w32.out.lt)
               have RQ_w33 : Hid (BRow w33 (w19.heap.size) 41 (kQ)) := Lib.hid (BRow.below RQ_w32.out hB RQ_w32.out.lt)
               have R9_w33 : Hid (BRow w33 (w21.heap.size) 41 (bare)) := Lib.hid (BRow.below R9_w32.out hB R9_w32.out.lt)
               have RF_w33 : Hid (BRow w33 (w22.heap.size) 41 (kF)) := Lib.hid (BRow.below RF_w32.out hB RF_w32.out.lt)
               have RL_w33 : Hid (BRow w33 (w24.heap.size) 41 (kL)) := Lib.hid (BRow.below RL_w32.out hB RL_w32.out.lt)
               have BB_w33 : Hid (Below w.heap.size w w33) := Lib.hid (BB_w32.out.trans (hB.mono BB_w32.out.size))
               clear hB RZ_w32 RA_w32 RW_w32 RT_w32 RO_w32 R2_w32 RQ_w32 R9_w32 RF_w32 RL_w32 BB_w32)
            | ((with_reducible show wpList _ _ _ (⟨some 135, .load 41 (.tmp 1), _, _, _, _⟩ :: _) _ _); refine wpList_load_b (by kernel_rfl) 41 _ rfl (g) (by exact rfl) _ Try.underlying41 (by kernel_rfl) 41 RZ_w32.out ?_)
            | (go_at_call 9; have hc := BB_w31; clear hc; (with_reducible refine (K16.out _).mono ?_); rintro e w32 ⟨rfl, hB⟩
               have RZ_w32 : Hid (BRow w32 (g) 41 (bare)) := Lib.hid (BRow.below RZ_w31.out hB RZ_w31.out.lt)
               have RA_w32 : Hid (VRow w32 (w2.heap.size) 51 (allB (wrK 15))) := Lib.hid (VRow.below RA_w31.out hB RA_w31.out.lt)
               have RW_w32 : Hid (VRow w32 (w9.heap.size) 51 (allB (wrK 15))) := Lib.hid (VRow.below RW_w31.out hB RW_w31.out.lt)
               have RT_w32 : Hid (BRow w32 (w12.heap.size) 41 (kT)) := Lib.hid (BRow.below RT_w31.out hB RT_w31.out.lt)
               have RO_w32 : Hid (BRow w32 (w14.heap.size) 41 (kO)) := Lib.hid (BRow.below RO_w31.out hB RO_w31.out.lt)
               have R2_w32 : Hid (BRow w32 (w16.heap.size) 41 (kO)) := Lib.hid (BRow.below R2_w31.out hB R2_w31.out.lt)
               have RQ_w32 : Hid (BRow w32 (w19.heap.size) 41 (kQ)) := Lib.hid (BRow.below RQ_w31.out hB RQ_w31.out.lt)
               have R9_w32 : Hid (BRow w32 (w21.heap.size) 41 (bare)) := Lib.hid (BRow.below R9_w31.out hB R9_w31.out.lt)
               have RF_w32 : Hid (BRow w32 (w22.heap.size) 41 (kF)) := Lib.hid (BRow.below RF_w31.out hB RF_w31.out.lt)
               have RL_w32 : Hid (BRow w32 (w24.heap.size) 41 (kL)) := Lib.hid (BRow.below RL_w31.out hB RL_w31.out.lt)
               have BB_w32 : Hid (Below w.heap.size w w32) := Lib.hid (BB_w31.out.trans (hB.mono BB_w31.out.size))
               clear hB RZ_w31 RA_w31 RW_w31 RT_w31 RO_w31 R2_w31 RQ_w31 R9_w31 RF_w31 RL_w31 BB_w31)
            | ((with_reducible show wpList _ _ _ (⟨some 130, .load 41 (.tmp 19), _, _, _, _⟩ :: _) _ _); refine wpList_load_b (by kernel_rfl) 41 _ rfl (w24.heap.size) (by exact rfl) _ Try.underlying41 (by kernel_rfl) 41 RL_w31.out ?_)
            | ((with_reducible show wpList _ _ _ (⟨some 122, .load 41 (.tmp 1), _, _, _, _⟩ :: _) _ _); refine wpList_load_b (by kernel_rfl) 41 _ rfl (g) (by exact rfl) _ Try.underlying41 (by kernel_rfl) 41 RZ_w31.out ?_)
            | ((with_reducible show wpList _ _ _ (⟨some 121, .load 41 (.tmp 15), _, _, _, _⟩ :: _) _ _); refine wpList_load_b (by kernel_rfl) 41 _ rfl (w21.heap.size) (by exact rfl) _ Try.underlying41 (by kernel_rfl) 41 R9_w31.out ?_)
            | (go_at_call 9; have hc := BB_w30; clear hc; (with_reducible refine (K14.out _).mono ?_); rintro e w31 ⟨rfl, hB⟩
               have RZ_w31 : Hid (BRow w31 (g) 41 (bare)) := Lib.hid (BRow.below RZ_w30.out hB RZ_w30.out.lt)
               have RA_w31 : Hid (VRow w31 (w2.heap.size) 51 (allB (wrK 15))) := Lib.hid (VRow.below RA_w30.out hB RA_w30.out.lt)
               have RW_w31 : Hid (VRow w31 (w9.heap.size) 51 (allB (wrK 15))) := Lib.hid (VRow.below RW_w30.out hB RW_w30.out.lt)
               have RT_w31 : Hid (BRow w31 (w12.heap.size) 41 (kT)) := Lib.hid (BRow.below RT_w30.out hB RT_w30.out.lt)
               have RO_w31 : Hid (BRow w31 (w14.heap.size) 41 (kO)) := Lib.hid (BRow.below RO_w30.out hB RO_w30.out.lt)
               have R2_w31 : Hid (BRow w31 (w16.heap.size) 41 (kO)) := Lib.hid (BRow.below R2_w30.out hB R2_w30.out.lt)
               have RQ_w31 : Hid (BRow w31 (w19.heap.size) 41 (kQ)) := Lib.hid (BRow.below RQ_w30.out hB RQ_w30.out.lt)
               have R9_w31 : Hid (BRow w31 (w21.heap.size) 41 (bare)) := Lib.hid (BRow.below R9_w30.out hB R9_w30.out.lt)
               have RF_w31 : Hid (BRow w31 (w22.heap.size) 41 (kF)) := Lib.hid (BRow.below RF_w30.out hB RF_w30.out.lt)
               have RL_w31 : Hid (BRow w31 (w24.heap.size) 41 (kL)) := Lib.hid (BRow.below RL_w30.out hB RL_w30.out.lt)
               have BB_w31 : Hid (Below w.heap.size w w31) := Lib.hid (BB_w30.out.trans (hB.mono BB_w30.out.size))
               clear hB RZ_w30 RA_w30 RW_w30 RT_w30 RO_w30 R2_w30 RQ_w30 R9_w30 RF_w30 RL_w30 BB_w30)
            | ((with_reducible show wpList _ _ _ (⟨some 112, .load 41 (.tmp 13), _, _, _, _⟩ :: _) _ _); refine wpList_load_b (by kernel_rfl) 41 _ rfl (w19.heap.size) (by exact rfl) _ Try.underlying41 (by kernel_rfl) 41 RQ_w30.out ?_)
            | (go_at_call 9; have hc := BB_w29; clear hc; (with_reducible refine (K13.out _).mono ?_); rintro e w30 ⟨rfl, hB⟩
               have RZ_w30 : Hid (BRow w30 (g) 41 (bare)) := Lib.hid (BRow.below RZ_w29.out hB RZ_w29.out.lt)
               have RA_w30 : Hid (VRow w30 (w2.heap.size) 51 (allB (wrK 15))) := Lib.hid (VRow.below RA_w29.out hB RA_w29.out.lt)
               have RW_w30 : Hid (VRow w30 (w9.heap.size) 51 (allB (wrK 15))) := Lib.hid (VRow.below RW_w29.out hB RW_w29.out.lt)
               have RT_w30 : Hid (BRow w30 (w12.heap.size) 41 (kT)) := Lib.hid (BRow.below RT_w29.out hB RT_w29.out.lt)
               have RO_w30 : Hid (BRow w30 (w14.heap.size) 41 (kO)) := Lib.hid (BRow.below RO_w29.out hB RO_w29.out.lt)
               have R2_w30 : Hid (BRow w30 (w16.heap.size) 41 (kO)) := Lib.hid (BRow.below R2_w29.out hB R2_w29.out.lt)
               have RQ_w30 : Hid (BRow w30 (w19.heap.size) 41 (kQ)) := Lib.hid (BRow.below RQ_w29.out hB RQ_w29.out.lt)
               have R9_w30 : Hid (BRow w30 (w21.heap.size) 41 (bare)) := Lib.hid (BRow.below R9_w29.out hB R9_w29.out.lt)
               have RF_w30 : Hid (BRow w30 (w22.heap.size) 41 (kF)) := Lib.hid (BRow.below RF_w29.out hB RF_w29.out.lt)
               have RL_w30 : Hid (BRow w30 (w24.heap.size) 41 (kL)) := Lib.hid (BRow.below RL_w29.out hB RL_w29.out.lt)
               have BB_w30 : Hid (Below w.heap.size w w30) := Lib.hid (BB_w29.out.trans (hB.mono BB_w29.out.size))
               clear hB RZ_w29 RA_w29 RW_w29 RT_w29 RO_w29 R2_w29 RQ_w29 R9_w29 RF_w29 RL_w29 BB_w29)
            | ((with_reducible show wpList _ _ _ (⟨some 107, .load 41 (.tmp 13), _, _, _, _⟩ :: _) _ _); refine wpList_load_b (by kernel_rfl) 41 _ rfl (w19.heap.size) (by exact rfl) _ Try.underlying41 (by kernel_rfl) 41 RQ_w29.out ?_)
            | (go_at_call 9; have hc := BB_w28; clear hc; (with_reducible refine (K12.out _).mono ?_); rintro e w29 ⟨rfl, hB⟩
               have RZ_w29 : Hid (BRow w29 (g) 41 (bare)) := Lib.hid (BRow.below RZ_w28.out hB RZ_w28.out.lt)
               have RA_w29 : Hid (VRow w29 (w2.heap.size) 51 (allB (wrK 15))) := Lib.hid (VRow.below RA_w28.out hB RA_w28.out.lt)
               have RW_w29 : Hid (VRow w29 (w9.heap.size) 51 (allB (wrK 15))) := Lib.hid (VRow.below RW_w28.out hB RW_w28.out.lt)
               have RT_w29 : Hid (BRow w29 (w12.heap.size) 41 (kT)) := Lib.hid (BRow.below RT_w28.out hB RT_w28.out.lt)
               have RO_w29 : Hid (BRow w29 (w14.heap.size) 41 (kO)) := Lib.hid (BRow.below RO_w28.out hB RO_w28.out.lt)
               have R2_w29 : Hid (BRow w29 (w16.heap.size) 41 (kO)) := Lib.hid (BRow.below R2_w28.out hB R2_w28.out.lt)
               have RQ_w29 : Hid (BRow w29 (w19.heap.size) 41 (kQ)) := Lib.hid (BRow.below RQ_w28.out hB RQ_w28.out.lt)
               have R9_w29 : Hid (BRow w29 (w21.heap.size) 41 (bare)) := Lib.hid (BRow.below R9_w28.out hB R9_w28.out.lt)
               have RF_w29 : Hid (BRow w29 (w22.heap.size) 41 (kF)) := Lib.hid (BRow.below RF_w28.out hB RF_w28.out.lt)
               have RL_w29 : Hid (BRow w29 (w24.heap.size) 41 (kL)) := Lib.hid (BRow.below RL_w28.out hB RL_w28.out.lt)
               have BB_w29 : Hid (Below w.heap.size w w29) := Lib.hid (BB_w28.out.trans (hB.mono BB_w28.out.size))
               clear hB RZ_w28 RA_w28 RW_w28 RT_w28 RO_w28 R2_w28 RQ_w28 R9_w28 RF_w28 RL_w28 BB_w28)
            | ((with_reducible show wpList _ _ _ (⟨some 102, .load 41 (.tmp 13), _, _, _, _⟩ :: _) _ _); refine wpList_load_b (by kernel_rfl) 41 _ rfl (w19.heap.size) (by exact rfl) _ Try.underlying41 (by kernel_rfl) 41 RQ_w28.out ?_)
            | ((with_reducible show wpList _ _ _ (⟨some 98, .load 41 (.tmp 7), _, _, _, _⟩ :: _) _ _); refine wpList_load_b (by kernel_rfl) 41 _ rfl (w14.heap.size) (by exact rfl) _ Try.underlying41 (by kernel_rfl) 41 RO_w28.out ?_)
            | ((with_reducible show wpList _ _ _ (⟨some 97, .load 41 (.tmp 10), _, _, _, _⟩ :: _) _ _); refine wpList_load_b (by kernel_rfl) 41 _ rfl (w16.heap.size) (by exact rfl) _ Try.underlying41 (by kernel_rfl) 41 R2_w28.out ?_)
            | (go_at_call 9; have hc := BB_w27; clear hc; (with_reducible refine (K11.out _).mono ?_); rintro e w28 ⟨rfl, hB⟩
               have RZ_w28 : Hid (BRow w28 (g) 41 (bare)) := Lib.hid (BRow.below RZ_w27.out hB RZ_w27.out.lt)
               have RA_w28 : Hid (VRow w28 (w2.heap.size) 51 (allB (wrK 15))) := Lib.hid (VRow.below RA_w27.out hB RA_w27.out.lt)
               have RW_w28 : Hid (VRow w28 (w9.heap.size) 51 (allB (wrK 15))) := Lib.hid (VRow.below RW_w27.out hB RW_w27.out.lt)
               have RT_w28 : Hid (BRow w28 (w12.heap.size) 41 (kT)) := Lib.hid (BRow.below RT_w27.out hB RT_w27.out.lt)
               have RO_w28 : Hid (BRow w28 (w14.heap.size) 41 (kO)) := Lib.hid (BRow.below RO_w27.out hB RO_w27.out.lt)
               have R2_w28 : Hid (BRow w28 (w16.heap.size) 41 (kO)) := Lib.hid (BRow.below R2_w27.out hB R2_w27.out.lt)
               have RQ_w28 : Hid (BRow w28 (w19.heap.size) 41 (kQ)) := Lib.hid (BRow.below RQ_w27.out hB RQ_w27.out.lt)
               have R9_w28 : Hid (BRow w28 (w21.heap.size) 41 (bare)) := Lib.hid (BRow.below R9_w27.out hB R9_w27.out.lt)
               have RF_w28 : Hid (BRow w28 (w22.heap.size) 41 (kF)) := Lib.hid (BRow.below RF_w27.out hB RF_w27.out.lt)
               have RL_w28 : Hid (BRow w28 (w24.heap.size) 41 (kL)) := Lib.hid (BRow.below RL_w27.out hB RL_w27.out.lt)
               have BB_w28 : Hid (Below w.heap.size w w28) := Lib.hid (BB_w27.out.trans (hB.mono BB_w27.out.size))
               clear hB RZ_w27 RA_w27 RW_w27 RT_w27 RO_w27 R2_w27 RQ_w27 R9_w27 RF_w27 RL_w27 BB_w27)
            | ((with_reducible show wpList _ _ _ (⟨some 92, .load 41 (.tmp 7), _, _, _, _⟩ :: _) _ _); refine wpList_load_b (by kernel_rfl) 41 _ rfl (w14.heap.size) (by exact rfl) _ Try.underlying41 (by kernel_rfl) 41 RO_w27.out ?_)
            | (go_at_call 9; have hc := BB_w26; clear hc; (with_reducible refine (K10.out _).mono ?_); rintro e w27 ⟨rfl, hB⟩
               have RZ_w27 : Hid (BRow w27 (g) 41 (bare)) := Lib.hid (BRow.below RZ_w26.out hB RZ_w26.out.lt)
               have RA_w27 : Hid (VRow w27 (w2.heap.size) 51 (allB (wrK 15))) := Lib.hid (VRow.below RA_w26.out hB RA_w26.out.lt)
               have RW_w27 : Hid (VRow w27 (w9.heap.size) 51 (allB (wrK 15))) := Lib.hid (VRow.below RW_w26.out hB RW_w26.out.lt)
               have RT_w27 : Hid (BRow w27 (w12.heap.size) 41 (kT)) := Lib.hid (BRow.below RT_w26.out hB RT_w26.out.lt)
               have RO_w27 : Hid (BRow w27 (w14.heap.size) 41 (kO)) := Lib.hid (BRow.below RO_w26.out hB RO_w26.out.lt)
               have R2_w27 : Hid (BRow w27 (w16.heap.size) 41 (kO)) := Lib.hid (BRow.below R2_w26.out hB R2_w26.out.lt)
               have RQ_w27 : Hid (BRow w27 (w19.heap.size) 41 (kQ)) := Lib.hid (BRow.below RQ_w26.out hB RQ_w26.out.lt)
               have R9_w27 : Hid (BRow w27 (w21.heap.size) 41 (bare)) := Lib.hid (BRow.below R9_w26.out hB R9_w26.out.lt)
               have RF_w27 : Hid (BRow w27 (w22.heap.size) 41 (kF)) := Lib.hid (BRow.below RF_w26.out hB RF_w26.out.lt)
               have RL_w27 : Hid (BRow w27 (w24.heap.size) 41 (kL)) := Lib.hid (BRow.below RL_w26.out hB RL_w26.out.lt)
               have BB_w27 : Hid (Below w.heap.size w w27) := Lib.hid (BB_w26.out.trans (hB.mono BB_w26.out.size))
               clear hB RZ_w26 RA_w26 RW_w26 RT_w26 RO_w26 R2_w26 RQ_w26 R9_w26 RF_w26 RL_w26 BB_w26)
            | ((with_reducible show wpList _ _ _ (⟨some 87, .load 41 (.tmp 7), _, _, _, _⟩ :: _) _ _); refine wpList_load_b (by kernel_rfl) 41 _ rfl (w14.heap.size) (by exact rfl) _ Try.underlying41 (by kernel_rfl) 41 RO_w26.out ?_)
            | ((with_reducible show wpList _ _ _ (⟨some 83, .load 51 (.tmp 5), _, _, _, _⟩ :: _) _ _); refine wpList_load_arr (by kernel_rfl) 51 _ rfl (w9.heap.size) (by exact rfl) _ _ Try.underlying51 51 (allB (wrK 15)) RW_w26.out (by rw [all_length]; kernel_rfl) ?_)
            | ((with_reducible show wpList _ _ _ (⟨some 82, .load 51 (.tmp 4), _, _, _, _⟩ :: _) _ _); refine wpList_load_arr (by kernel_rfl) 51 _ rfl (w2.heap.size) (by exact rfl) _ _ Try.underlying51 51 (allB (wrK 15)) RA_w26.out (by rw [all_length]; kernel_rfl) ?_)
            | (go_at_call 7; have hc := BB_w25; clear hc; (with_reducible refine (KW.out _).mono ?_); rintro e w26 ⟨rfl, hB⟩
               have RZ_w26 : Hid (BRow w26 (g) 41 (bare)) := Lib.hid (BRow.below RZ_w25.out hB RZ_w25.out.lt)
               have RA_w26 : Hid (VRow w26 (w2.heap.size) 51 (allB (wrK 15))) := Lib.hid (VRow.below RA_w25.out hB RA_w25.out.lt)
               have RW_w26 : Hid (VRow w26 (w9.heap.size) 51 (allB (wrK 15))) := Lib.hid (VRow.below RW_w25.out hB RW_w25.out.lt)
               have RT_w26 : Hid (BRow w26 (w12.heap.size) 41 (kT)) := Lib.hid (BRow.below RT_w25.out hB RT_w25.out.lt)
               have RO_w26 : Hid (BRow w26 (w14.heap.size) 41 (kO)) := Lib.hid (BRow.below RO_w25.out hB RO_w25.out.lt)
               have R2_w26 : Hid (BRow w26 (w16.heap.size) 41 (kO)) := Lib.hid (BRow.below R2_w25.out hB R2_w25.out.lt)
               have RQ_w26 : Hid (BRow w26 (w19.heap.size) 41 (kQ)) := Lib.hid (BRow.below RQ_w25.out hB RQ_w25.out.lt)
               have R9_w26 : Hid (BRow w26 (w21.heap.size) 41 (bare)) := Lib.hid (BRow.below R9_w25.out hB R9_w25.out.lt)
               have RF_w26 : Hid (BRow w26 (w22.heap.size) 41 (kF)) := Lib.hid (BRow.below RF_w25.out hB RF_w25.out.lt)
               have RL_w26 : Hid (BRow w26 (w24.heap.size) 41 (kL)) := Lib.hid (BRow.below RL_w25.out hB RL_w25.out.lt)
               have BB_w26 : Hid (Below w.heap.size w w26) := Lib.hid (BB_w25.out.trans (hB.mono BB_w25.out.size))
               clear hB RZ_w25 RA_w25 RW_w25 RT_w25 RO_w25 R2_w25 RQ_w25 R9_w25 RF_w25 RL_w25 BB_w25))
          go_ret
          exact ⟨rfl, BB_w34.out⟩
end Go.Proofs.Ytkodoldkfeopdaa
