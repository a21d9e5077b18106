/-
  BankKeeps' walk, if the program's functions are what they must be: true. Made by wip/genbankref.py.
-/
import Derived.Test.YtkodoldkfeopdaaKm
import Derived.Deep.DeepCutAuto
import Derived.Deep.CutBlock
namespace Go.Proofs.Ytkodoldkfeopdaa
open Go.RowKit
set_option linter.unusedVariables false
set_option maxRecDepth 100000
set_option maxHeartbeats 16000000 in
theorem keeps_walk (H : BankOk) (A : Option Addr) (len cap : Nat) (x : Ax) (w : World) (hlen : len ≤ 9223372036854775807) (hA : ActsIn w A len) (hr1 : -128 ≤ x.rg) (hr2 : x.rg ≤ 127) (hv1 : -2147483648 ≤ x.v) (hv2 : x.v ≤ 2147483647) :
    Calls Try.prog 3 #[.slice A len cap, .agg (xc x).toArray] w fun e w' => e = .returned (.bool true) ∧ Below w.heap.size w w' := by
  have KW := Lib.hid (works_any H)
  have KP := Lib.hid (fun W (hb : Below w.heap.size w W) => played_any H A len cap W hlen (hA.below hb rfl))
  clear hA
  unfold xc
  go_enter Try.func3, Try.ntmps3
  go_upto_region 1 with (fail)
  refine name_one (Q := fun X => Code.wp _ _ _ _ X) ?_
  intro W0 hq1 hB0 hz0
  have RX_W0 : Hid (ARow W0 w.heap.size 25 x) := Lib.hid hq1
  have BB_W0 := Lib.hid hB0
  clear hq1 hB0 hz0
  obtain ⟨gx, hgx⟩ : ∃ g, w.heap.size = g := ⟨_, rfl⟩
  have HGX := Lib.hid hgx
  rw [hgx] at RX_W0 ⊢
  clear hgx
  go_upto_region 3 with (first
      | (go_at_call 7; have hc := BB_W0; clear hc; (with_reducible refine (KW.out _).mono ?_); rintro e w1 ⟨rfl, hB⟩
         have RX_w1 : Hid (ARow w1 (gx) 25 (x)) := Lib.hid (ARow.below RX_W0.out hB RX_W0.out.lt)
         have BB_w1 : Hid (Below w.heap.size w w1) := Lib.hid (BB_W0.out.trans (hB.mono BB_W0.out.size))
         clear hB RX_W0 BB_W0))
  go_upto_region 4 with (first
      | ((with_reducible show wpList _ _ _ (⟨none, .store 41 (.tmp 5) (.tmp 21), _, _, _, _⟩ :: _) _ _); refine wpList_store_b  rfl 41 _ _ rfl (w2.heap.size) (by exact rfl) (by exact rfl) (by kernel_rfl) 41 (show BRow _ _ _ bare from alloc_at _ _) ?_; intro w3 HN HO HB
         have RX_w3 : Hid (ARow w3 (gx) 25 (x)) := Lib.hid (ARow.other (ARow.below RX_w2.out ((Below.refl _ _).alloc (Nat.le_refl _) _) RX_w2.out.lt) HO.out (Nat.ne_of_lt RX_w2.out.lt))
         have RB_w3 : Hid (BRow w3 w2.heap.size 41 (b)) := HN
         have BB_w3 : Hid (Below w.heap.size w w3) := Lib.hid ((BB_w2.out.alloc BB_w2.out.size _).trans (HB.out.mono BB_w2.out.size))
         clear HO HB HN RX_w2 BB_w2)
      | (go_at_call 8; have hc := BB_w1; clear hc; (with_reducible refine (KP.out _ BB_w1.out).mono ?_); rintro e w2 ⟨⟨b, hok, rfl⟩, hB⟩
         have RX_w2 : Hid (ARow w2 (gx) 25 (x)) := Lib.hid (ARow.below RX_w1.out hB RX_w1.out.lt)
         have BB_w2 : Hid (Below w.heap.size w w2) := Lib.hid (BB_w1.out.trans (hB.mono BB_w1.out.size))
         have HOK := Lib.hid hok
         clear hok
         clear hB RX_w1 BB_w1))
  generalize w2.heap.size = gb at *
  have z1 := RX_w3.out.c1
  have z2 := RX_w3.out.c2
  have LB : Hid (RX_w3 = RX_w3) := Lib.hid rfl
  clear LB KW KP
  obtain ⟨p, hp⟩ : ∃ p, b.q.p = p := ⟨_, rfl⟩
  have hp8 : p < 256 := by rw [← hp]; exact HOK.out.q.p
  obtain ⟨wp, hwp⟩ : ∃ q, (writeB b x.rg x.v).q.p = q := ⟨_, rfl⟩
  have HWP := Lib.hid hwp
  have HP := Lib.hid hp
  obtain ⟨lo, hlo⟩ : ∃ m, Iq.lowN x.v = m := ⟨_, rfl⟩
  have HLO := Lib.hid hlo
  have hlo8 : lo < 256 := by rw [← hlo]; exact Iq.lowN_lt _
  have hand : bits .and .i32 x.v 255 = (lo : Int) := by rw [← hlo]; exact and255 x.v hv1 hv2
  have K1 : Hid (∀ W : World, Calls Try.prog 9 #[bv b, .int .i64 13] W fun e w' => e = .returned (.int .i32 (p : Int)) ∧ Below W.heap.size W w') := Lib.hid (fun W => (H.peek b 13 W HOK.out (by decide) (by decide)).mono (fun e w' h => ⟨h.1.trans (by rw [peek13, hp]), h.2⟩))
  have K2 := Lib.hid (fun W => H.write b x.rg x.v W HOK.out (by omega) (by omega) hv1 hv2)
  have HO2 := writeB_ok HOK.out x.rg x.v
  have K3 : Hid (∀ W : World, Calls Try.prog 9 #[bv (writeB b x.rg x.v), .int .i64 13] W fun e w' => e = .returned (.int .i32 (wp : Int)) ∧ Below W.heap.size W w') := Lib.hid (fun W => (H.peek _ 13 W HO2 (by decide) (by decide)).mono (fun e w' h => ⟨h.1.trans (by rw [peek13, hwp]), h.2⟩))
  clear hp hwp hlo HO2
  go_upto_block 0 with (first
      | (go_at_call 9; have hc := BB_w5; clear hc; (with_reducible refine (K3.out _).mono ?_); rintro e w6 ⟨rfl, hB⟩
         have RX_w6 : Hid (ARow w6 (gx) 25 (x)) := Lib.hid (ARow.below RX_w5.out hB RX_w5.out.lt)
         have RB_w6 : Hid (BRow w6 (gb) 41 (b)) := Lib.hid (BRow.below RB_w5.out hB RB_w5.out.lt)
         have BB_w6 : Hid (Below w.heap.size w w6) := Lib.hid (BB_w5.out.trans (hB.mono BB_w5.out.size))
         have x2 := RX_w6.out.c2
         clear hB RX_w5 RB_w5 BB_w5)
      | (go_at_call 10; have hc := BB_w4; clear hc; (with_reducible refine (K2.out _).mono ?_); rintro e w5 ⟨rfl, hB⟩
         have RX_w5 : Hid (ARow w5 (gx) 25 (x)) := Lib.hid (ARow.below RX_w4.out hB RX_w4.out.lt)
         have RB_w5 : Hid (BRow w5 (gb) 41 (b)) := Lib.hid (BRow.below RB_w4.out hB RB_w4.out.lt)
         have BB_w5 : Hid (Below w.heap.size w w5) := Lib.hid (BB_w4.out.trans (hB.mono BB_w4.out.size))
         clear hB RX_w4 RB_w4 BB_w4)
      | ((with_reducible show wpList _ _ _ (⟨some 27, .load 41 (.tmp 5), _, _, _, _⟩ :: _) _ _); refine wpList_load_b (by rfl) 41 _ rfl (gb) (by exact rfl) _ Try.underlying41 (by kernel_rfl) 41 RB_w4.out ?_)
      | (go_at_call 9; have hc := BB_w3; clear hc; (with_reducible refine (K1.out _).mono ?_); rintro e w4 ⟨rfl, hB⟩
         have RX_w4 : Hid (ARow w4 (gx) 25 (x)) := Lib.hid (ARow.below RX_w3.out hB RX_w3.out.lt)
         have RB_w4 : Hid (BRow w4 (gb) 41 (b)) := Lib.hid (BRow.below RB_w3.out hB RB_w3.out.lt)
         have BB_w4 : Hid (Below w.heap.size w w4) := Lib.hid (BB_w3.out.trans (hB.mono BB_w3.out.size))
         have y1 := RX_w4.out.c1
         have y2 := RX_w4.out.c2
         clear hB RX_w3 RB_w3 BB_w3)
      | ((with_reducible show wpList _ _ _ (⟨some 22, .load 41 (.tmp 5), _, _, _, _⟩ :: _) _ _); refine wpList_load_b (by rfl) 41 _ rfl (gb) (by exact rfl) _ Try.underlying41 (by kernel_rfl) 41 RB_w3.out ?_))
  clear z1 z2 y1 y2 x2 K1 K2 K3
  have hs255 : (255 : Int) - (lo : Int) = ((255 - lo : Nat) : Int) := by omega
  go_cut [] (fun wx => ∃ W : World, W = wx ∧ ARow W gx 25 x ∧ BRow W gb 41 b ∧ Below w.heap.size w W)
  case first =>
    by_cases h14 : x.rg = 14
    · have e14 : (x.rg == 14) = true := by simp [h14]
      have ha : bits .and .i32 (p : Int) ((255 - lo : Nat) : Int) = (wp : Int) := by rw [i32_and_b p (255 - lo) hp8 (by omega), ← HWP.out, h14, write_p14, HP.out, HLO.out]
      have ha2 : bits .and .i32 (p : Int) (255 - (lo : Int)) = (wp : Int) := by rw [hs255]; exact ha
      clear h14
      go_wp2_with fail
      go_meet
      case rel => exact ⟨_, rfl, RX_w6.out, RB_w6.out, BB_w6.out⟩
    have e14 : (x.rg == 14) = false := by simp [h14]
    by_cases h13 : x.rg = 13
    · have e13 : (x.rg == 13) = true := by simp [h13]
      have ha : bits .or .i32 (p : Int) (lo : Int) = (wp : Int) := by rw [i32_or_b p lo hp8 hlo8, ← HWP.out, h13, write_p13, HP.out, HLO.out]
      clear h13 h14
      go_wp2_with fail
      go_meet
      case rel => exact ⟨_, rfl, RX_w6.out, RB_w6.out, BB_w6.out⟩
    have e13 : (x.rg == 13) = false := by simp [h13]
    obtain rfl : wp = p := by rw [← HWP.out, write_p b x.rg x.v h13 h14, HP.out]
    clear h13 h14
    go_wp2_with fail
    go_meet
    case rel => exact ⟨_, rfl, RX_w6.out, RB_w6.out, BB_w6.out⟩
  case rest =>
    clear RX_w6 RB_w6 BB_w6 hand hs255 HWP
    obtain ⟨u, rfl, q1, q2, q3⟩ := hcut
    have RX_u := Lib.hid q1
    have RB_u := Lib.hid q2
    have BB_u := Lib.hid q3
    clear q1 q2 q3
    have K4 := Lib.hid (fun W => H.read b x.rg W HOK.out (by omega) (by omega))
    have K5 := Lib.hid (fun W => H.tick b W HOK.out)
    have hx8 : x.v % 256 = (lo : Int) := by rw [← HLO.out, Iq.lowN_cast]
    have hxw : IntKind.u8.wrap x.v = (lo : Int) := by rw [IntKind.wrap_u8]; exact hx8
    have O6 := pinsB_ok HOK.out hlo8
    have O7 := arriveB_ok HOK.out hlo8
    have O8 := tickB_ok HOK.out
    have O9 := readB_ok HOK.out x.rg
    have E1 := pins_kept HOK.out lo
    have E2 := arrive_kept HOK.out lo
    have E3 := tick_kept HOK.out
    rw [HP.out] at E1 E2 E3
    obtain ⟨qa, hqa⟩ : ∃ q, (pinsB b lo).q.p = q := ⟨_, rfl⟩
    obtain ⟨qb, hqb⟩ : ∃ q, (arriveB b lo).q.p = q := ⟨_, rfl⟩
    obtain ⟨qc, hqc⟩ : ∃ q, (tickB b).q.p = q := ⟨_, rfl⟩
    rw [hqa] at E1
    rw [hqb] at E2
    rw [hqc] at E3
    have K6 := Lib.hid (fun W => H.pins b lo W HOK.out hlo8)
    have K7 := Lib.hid (fun W => H.arrive b lo W HOK.out hlo8)
    have K8 : Hid (∀ W : World, Calls Try.prog 9 #[bv (pinsB b lo), .int .i64 13] W fun e w' => e = .returned (.int .i32 (qa : Int)) ∧ Below W.heap.size W w') := Lib.hid (fun W => (H.peek _ 13 W O6 (by decide) (by decide)).mono (fun e w' h => ⟨h.1.trans (by rw [peek13, hqa]), h.2⟩))
    have K9 : Hid (∀ W : World, Calls Try.prog 9 #[bv (arriveB b lo), .int .i64 13] W fun e w' => e = .returned (.int .i32 (qb : Int)) ∧ Below W.heap.size W w') := Lib.hid (fun W => (H.peek _ 13 W O7 (by decide) (by decide)).mono (fun e w' h => ⟨h.1.trans (by rw [peek13, hqb]), h.2⟩))
    have K10 : Hid (∀ W : World, Calls Try.prog 9 #[bv (tickB b), .int .i64 13] W fun e w' => e = .returned (.int .i32 (qc : Int)) ∧ Below W.heap.size W w') := Lib.hid (fun W => (H.peek _ 13 W O8 (by decide) (by decide)).mono (fun e w' h => ⟨h.1.trans (by rw [peek13, hqc]), h.2⟩))
    have K11 : Hid (∀ W : World, Calls Try.prog 9 #[bv (readB b x.rg), .int .i64 13] W fun e w' => e = .returned (.int .i32 (p : Int)) ∧ Below W.heap.size W w') := Lib.hid (fun W => (H.peek _ 13 W O9 (by decide) (by decide)).mono (fun e w' h => ⟨h.1.trans (by rw [peek13, read_p, HP.out]), h.2⟩))
    obtain ⟨u1, hu1⟩ : ∃ y, bits .andNot .i32 (p : Int) 1 = y := ⟨_, rfl⟩
    have hv1 : bits .andNot .i32 (qa : Int) 1 = u1 := E1.1.trans hu1
    have hw1 : bits .and .i32 (qa : Int) (p : Int) = (p : Int) := E1.2
    obtain ⟨u2, hu2⟩ : ∃ y, bits .andNot .i32 (p : Int) 2 = y := ⟨_, rfl⟩
    have hv2 : bits .andNot .i32 (qb : Int) 2 = u2 := E2.1.trans hu2
    have hw2 : bits .and .i32 (qb : Int) (p : Int) = (p : Int) := E2.2
    obtain ⟨u3, hu3⟩ : ∃ y, bits .andNot .i32 (p : Int) 28 = y := ⟨_, rfl⟩
    have hv3 : bits .andNot .i32 (qc : Int) 28 = u3 := E3.1.trans hu3
    have hw3 : bits .and .i32 (qc : Int) (p : Int) = (p : Int) := E3.2
    clear E1 E2 E3 O6 O7 O8 O9 hqa hqb hqc HLO
    generalize peekB b x.rg = pk at *
    generalize readB b x.rg = bn at *
    generalize tickB b = bt at *
    generalize pinsB b lo = bp at *
    generalize arriveB b lo = ba at *
    generalize Ua.tickB b.T b.k = sn at *
    generalize Ua.sendsU b.T b.k = is at *
    go_upto_region 19 with (first
      | ((with_reducible show wpList _ _ _ (⟨none, .store 41 (.tmp 12) (.tmp 64), _, _, _, _⟩ :: _) _ _); refine wpList_store_b  rfl 41 _ _ rfl (w23.heap.size) (by exact rfl) (by exact rfl) (by kernel_rfl) 41 (show BRow _ _ _ bare from alloc_at _ _) ?_; intro w24 HN HO HB
         have RX_w24 : Hid (ARow w24 (gx) 25 (x)) := Lib.hid (ARow.other (ARow.below RX_w23.out ((Below.refl _ _).alloc (Nat.le_refl _) _) RX_w23.out.lt) HO.out (Nat.ne_of_lt RX_w23.out.lt))
         have RB_w24 : Hid (BRow w24 (gb) 41 (b)) := Lib.hid (BRow.other (BRow.below RB_w23.out ((Below.refl _ _).alloc (Nat.le_refl _) _) RB_w23.out.lt) HO.out (Nat.ne_of_lt RB_w23.out.lt))
         have RN_w24 : Hid (BRow w24 (w21.heap.size) 41 (bn)) := Lib.hid (BRow.other (BRow.below RN_w23.out ((Below.refl _ _).alloc (Nat.le_refl _) _) RN_w23.out.lt) HO.out (Nat.ne_of_lt RN_w23.out.lt))
         have RT_w24 : Hid (BRow w24 w23.heap.size 41 (bt)) := HN
         have BB_w24 : Hid (Below w.heap.size w w24) := Lib.hid ((BB_w23.out.alloc BB_w23.out.size _).trans (HB.out.mono BB_w23.out.size))
         clear HO HB HN RX_w23 RB_w23 RN_w23 BB_w23)
      | (go_at_call 12; have hc := BB_w22; clear hc; (with_reducible refine (K5.out _).mono ?_); rintro e w23 ⟨rfl, hB⟩
         have RX_w23 : Hid (ARow w23 (gx) 25 (x)) := Lib.hid (ARow.below RX_w22.out hB RX_w22.out.lt)
         have RB_w23 : Hid (BRow w23 (gb) 41 (b)) := Lib.hid (BRow.below RB_w22.out hB RB_w22.out.lt)
         have RN_w23 : Hid (BRow w23 (w21.heap.size) 41 (bn)) := Lib.hid (BRow.below RN_w22.out hB RN_w22.out.lt)
         have BB_w23 : Hid (Below w.heap.size w w23) := Lib.hid (BB_w22.out.trans (hB.mono BB_w22.out.size))
         clear hB RX_w22 RB_w22 RN_w22 BB_w22)
      | ((with_reducible show wpList _ _ _ (⟨some 62, .load 41 (.tmp 5), _, _, _, _⟩ :: _) _ _); refine wpList_load_b (by rfl) 41 _ rfl (gb) (by exact rfl) _ Try.underlying41 (by kernel_rfl) 41 RB_w22.out ?_)
      | ((with_reducible show wpList _ _ _ (⟨none, .store 41 (.tmp 11) (.tmp 60), _, _, _, _⟩ :: _) _ _); refine wpList_store_b  rfl 41 _ _ rfl (w21.heap.size) (by exact rfl) (by exact rfl) (by kernel_rfl) 41 (show BRow _ _ _ bare from alloc_at _ _) ?_; intro w22 HN HO HB
         have RX_w22 : Hid (ARow w22 (gx) 25 (x)) := Lib.hid (ARow.other (ARow.below RX_w21.out ((Below.refl _ _).alloc (Nat.le_refl _) _) RX_w21.out.lt) HO.out (Nat.ne_of_lt RX_w21.out.lt))
         have RB_w22 : Hid (BRow w22 (gb) 41 (b)) := Lib.hid (BRow.other (BRow.below RB_w21.out ((Below.refl _ _).alloc (Nat.le_refl _) _) RB_w21.out.lt) HO.out (Nat.ne_of_lt RB_w21.out.lt))
         have RN_w22 : Hid (BRow w22 w21.heap.size 41 (bn)) := HN
         have BB_w22 : Hid (Below w.heap.size w w22) := Lib.hid ((BB_w21.out.alloc BB_w21.out.size _).trans (HB.out.mono BB_w21.out.size))
         clear HO HB HN RX_w21 RB_w21 BB_w21)
      | (go_at_call 11; have hc := BB_u; clear hc; (with_reducible refine (K4.out _).mono ?_); rintro e w21 ⟨rfl, hB⟩
         have RX_w21 : Hid (ARow w21 (gx) 25 (x)) := Lib.hid (ARow.below RX_u.out hB RX_u.out.lt)
         have RB_w21 : Hid (BRow w21 (gb) 41 (b)) := Lib.hid (BRow.below RB_u.out hB RB_u.out.lt)
         have BB_w21 : Hid (Below w.heap.size w w21) := Lib.hid (BB_u.out.trans (hB.mono BB_u.out.size))
         clear hB RX_u RB_u BB_u)
      | ((with_reducible show wpList _ _ _ (⟨some 56, .load 41 (.tmp 5), _, _, _, _⟩ :: _) _ _); refine wpList_load_b (by rfl) 41 _ rfl (gb) (by exact rfl) _ Try.underlying41 (by kernel_rfl) 41 RB_u.out ?_))
    refine wp_region_noPanic ?_
    refine wp_region_held_drew (S := fun X => Below w24.heap.size w24 X) (by kernel_rfl) ((Below.refl _ w24).drew) (fun hHeld => ?_)
    refine' take_ 0 rfl (by kernel_rfl) (by kernel_rfl) (by kernel_rfl) (fun _ _ _ h => h) (by rfl) (fun wS hSw => run_load_b wS 41 _ (gb) rfl _ Try.underlying41 (by kernel_rfl) 41 (RB_w24.out.below hSw RB_w24.out.lt) _ _ _ _ _) hHeld ?_
    try simp only [Act.put, List.setIfInBounds_toArray, List.set_cons_zero, List.set_cons_succ]
    refine' take_ 1 rfl (by kernel_rfl) (by kernel_rfl) (by kernel_rfl) (fun _ _ _ h => h) (by rfl) (fun wS hSw => ?_) hHeld ?_
    rotate_left
    focus (go_simp; (try with_reducible rfl); done)
    try simp only [Act.put, List.setIfInBounds_toArray, List.set_cons_zero, List.set_cons_succ]
    refine' take_ 2 rfl (by kernel_rfl) (by kernel_rfl) (by kernel_rfl) (fun _ _ _ h => h) (by rfl) (fun wS hSw => ?_) hHeld ?_
    rotate_left
    focus (have z2 := (RX_w24.out.below hSw RX_w24.out.lt).c2; go_simp; (try with_reducible rfl); done)
    try simp only [Act.put, List.setIfInBounds_toArray, List.set_cons_zero, List.set_cons_succ]
    refine' take_ 3 rfl (by kernel_rfl) (by kernel_rfl) (by kernel_rfl) (fun _ _ _ h => h) (by rfl) (fun wS hSw => ?_) hHeld ?_
    rotate_left
    focus (go_simp; (try with_reducible rfl); done)
    try simp only [Act.put, List.setIfInBounds_toArray, List.set_cons_zero, List.set_cons_succ]
    refine' take_ 6 rfl (by kernel_rfl) (by kernel_rfl) (by kernel_rfl) (fun _ _ _ h => h) (by rfl) (fun wS hSw => run_load_b wS 41 _ (gb) rfl _ Try.underlying41 (by kernel_rfl) 41 (RB_w24.out.below hSw RB_w24.out.lt) _ _ _ _ _) hHeld ?_
    try simp only [Act.put, List.setIfInBounds_toArray, List.set_cons_zero, List.set_cons_succ]
    refine' take_ 7 rfl (by kernel_rfl) (by kernel_rfl) (by kernel_rfl) (fun _ _ _ h => h) (by rfl) (fun wS hSw => ?_) hHeld ?_
    rotate_left
    focus (go_simp; (try with_reducible rfl); done)
    try simp only [Act.put, List.setIfInBounds_toArray, List.set_cons_zero, List.set_cons_succ]
    refine' take_ 8 rfl (by kernel_rfl) (by kernel_rfl) (by kernel_rfl) (fun _ _ _ h => h) (by rfl) (fun wS hSw => ?_) hHeld ?_
    rotate_left
    focus (have z2 := (RX_w24.out.below hSw RX_w24.out.lt).c2; go_simp; (try with_reducible rfl); done)
    try simp only [Act.put, List.setIfInBounds_toArray, List.set_cons_zero, List.set_cons_succ]
    refine' take_ 9 rfl (by kernel_rfl) (by kernel_rfl) (by kernel_rfl) (fun _ _ _ h => h) (by rfl) (fun wS hSw => ?_) hHeld ?_
    rotate_left
    focus (go_simp; (try with_reducible rfl); done)
    try simp only [Act.put, List.setIfInBounds_toArray, List.set_cons_zero, List.set_cons_succ]
    refine' take_ 12 rfl (by kernel_rfl) (by kernel_rfl) (by kernel_rfl) (fun _ _ _ h => h) (by rfl) (fun wS hSw => run_load_b wS 41 _ (w23.heap.size) rfl _ Try.underlying41 (by kernel_rfl) 41 (RT_w24.out.below hSw RT_w24.out.lt) _ _ _ _ _) hHeld ?_
    try simp only [Act.put, List.setIfInBounds_toArray, List.set_cons_zero, List.set_cons_succ]
    refine only_ 4 rfl (by kernel_rfl) (by rfl) (fun K hK => ?_)
    go_simp
    (with_reducible refine (K6.out _).mono ?_)
    rintro e wn ⟨rfl, hBn⟩
    go_simp
    refine hK.out _ _ (hHeld.trans (hBn.mono hHeld.size)) (fun hHeld2 => ?_)
    clear hK K hHeld
    have hHeld := hHeld2
    clear hHeld2
    try simp only [Act.put, List.setIfInBounds_toArray, List.set_cons_zero, List.set_cons_succ]
    clear hBn
    refine only_ 5 rfl (by kernel_rfl) (by rfl) (fun K hK => ?_)
    go_simp
    (with_reducible refine (K8.out _).mono ?_)
    rintro e wn ⟨rfl, hBn⟩
    go_simp
    refine hK.out _ _ (hHeld.trans (hBn.mono hHeld.size)) (fun hHeld2 => ?_)
    clear hK K hHeld
    have hHeld := hHeld2
    clear hHeld2
    try simp only [Act.put, List.setIfInBounds_toArray, List.set_cons_zero, List.set_cons_succ]
    clear hBn
    refine only_ 10 rfl (by kernel_rfl) (by rfl) (fun K hK => ?_)
    go_simp
    (with_reducible refine (K7.out _).mono ?_)
    rintro e wn ⟨rfl, hBn⟩
    go_simp
    refine hK.out _ _ (hHeld.trans (hBn.mono hHeld.size)) (fun hHeld2 => ?_)
    clear hK K hHeld
    have hHeld := hHeld2
    clear hHeld2
    try simp only [Act.put, List.setIfInBounds_toArray, List.set_cons_zero, List.set_cons_succ]
    clear hBn
    refine only_ 11 rfl (by kernel_rfl) (by rfl) (fun K hK => ?_)
    go_simp
    (with_reducible refine (K9.out _).mono ?_)
    rintro e wn ⟨rfl, hBn⟩
    go_simp
    refine hK.out _ _ (hHeld.trans (hBn.mono hHeld.size)) (fun hHeld2 => ?_)
    clear hK K hHeld
    have hHeld := hHeld2
    clear hHeld2
    try simp only [Act.put, List.setIfInBounds_toArray, List.set_cons_zero, List.set_cons_succ]
    clear hBn
    refine only_ 13 rfl (by kernel_rfl) (by rfl) (fun K hK => ?_)
    go_simp
    (with_reducible refine (K10.out _).mono ?_)
    rintro e wn ⟨rfl, hBn⟩
    go_simp
    refine hK.out _ _ (hHeld.trans (hBn.mono hHeld.size)) (fun hHeld2 => ?_)
    clear hK K hHeld
    have hHeld := hHeld2
    clear hHeld2
    try simp only [Act.put, List.setIfInBounds_toArray, List.set_cons_zero, List.set_cons_succ]
    clear hBn
    refine' take_ 14 rfl (by kernel_rfl) (by kernel_rfl) (by kernel_rfl) (fun _ _ _ h => h) (by rfl) (fun wS hSw => ?_) hHeld ?_
    rotate_left
    focus (go_simp; (try with_reducible rfl); done)
    try simp only [Act.put, List.setIfInBounds_toArray, List.set_cons_zero, List.set_cons_succ]
    refine' take_ 15 rfl (by kernel_rfl) (by kernel_rfl) (by kernel_rfl) (fun _ _ _ h => h) (by rfl) (fun wS hSw => ?_) hHeld ?_
    rotate_left
    focus (go_simp; (try with_reducible rfl); done)
    try simp only [Act.put, List.setIfInBounds_toArray, List.set_cons_zero, List.set_cons_succ]
    refine' take_ 16 rfl (by kernel_rfl) (by kernel_rfl) (by kernel_rfl) (fun _ _ _ h => h) (by rfl) (fun wS hSw => ?_) hHeld ?_
    rotate_left
    focus (go_simp; (try with_reducible rfl); done)
    try simp only [Act.put, List.setIfInBounds_toArray, List.set_cons_zero, List.set_cons_succ]
    refine wpAnyH_done (by kernel_rfl) ?_ _
    refine NoPanic.normal ?_
    have RN_z := Lib.hid (RN_w24.out.below hHeld RN_w24.out.lt)
    have BB_z := Lib.hid (BB_w24.out.trans (hHeld.mono BB_w24.out.size))
    clear hHeld K4 K5 K6 K7 K8 K9 K10
    go_wp2_with (first
      | (go_at_call 9; have hc := BB_z; clear hc; (with_reducible refine (K11.out _).mono ?_); rintro e w25 ⟨rfl, hB⟩
         have RN_w25 : Hid (BRow w25 (w21.heap.size) 41 (bn)) := Lib.hid (BRow.below RN_z.out hB RN_z.out.lt)
         have BB_w25 : Hid (Below w.heap.size w w25) := Lib.hid (BB_z.out.trans (hB.mono BB_z.out.size))
         clear hB RN_z BB_z)
      | ((with_reducible show wpList _ _ _ (⟨some 81, .load 41 (.tmp 11), _, _, _, _⟩ :: _) _ _); refine wpList_load_b (by rfl) 41 _ rfl (w21.heap.size) (by exact rfl) _ Try.underlying41 (by kernel_rfl) 41 RN_z.out ?_))
    go_ret
    exact ⟨rfl, BB_w25.out⟩
end Go.Proofs.Ytkodoldkfeopdaa
