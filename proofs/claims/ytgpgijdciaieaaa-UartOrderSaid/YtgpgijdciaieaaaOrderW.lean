/-
  UartOrder's walk, if the program's functions are what they must be: true. Made by wip/genuartorder.py.
-/
import Derived.Test.YtgpgijdciaieaaaOs
import Derived.Deep.DeepCutAuto
import Derived.Deep.CutBlock
namespace Go.Proofs.Ytgpgijdciaieaaa
open Go.RowKit
set_option linter.unusedVariables false
theorem lowN_small (b : Nat) (h : b < 256) : lowN (b : Int) = b := by
  unfold lowN
  omega
theorem lowN_less (b : Nat) (h : b < 256) : lowN ((b : Int) - 256) = b := by
  unfold lowN
  omega
theorem bit_and2 (c : Nat) (h : c < 256) : bits .and .u8 (c : Int) 2 = if c / 2 % 2 = 1 then 2 else 0 := by
  revert c h
  decide +kernel
set_option maxHeartbeats 16000000 in
set_option maxRecDepth 100000 in
theorem order_walk (H : UartOk) (A : Option Addr) (len cap : Nat) (w : World) (hlen : len ≤ 9223372036854775807) (hA : ActsIn w A len) :
    Calls Try.prog 4 #[.slice A len cap] w fun e w' => e = .returned (.bool true) ∧ Below w.heap.size w w' := by
  have HA := Lib.hid hA
  clear hA
  go_enter Try.func4, Try.ntmps4
  go_wp2_with (go_at_call 11; refine (works_any H _).mono ?_; rintro e w0 ⟨rfl, hB⟩; have HB0 := Lib.hid hB; clear hB)
  go_loopw [4, 5, 6, 7, 8, 9] (fun vi vo tv cv lv iv wr => ∃ (k : Nat) (I O : List Nat) (tk c : Nat) (l : Bool), k ≤ len ∧ k ≤ 200 ∧ iv = .int .i64 k ∧ tv = .int .i64 tk ∧ cv = .int .u8 c ∧ lv = .bool l ∧ Rg I O c tk ∧ Os w wr w0.heap.size vi vo I O (I.length : Nat) (pad I) (O.length : Nat) (pad O) l c tk) (fun _ _ _ _ _ iv _ => 200 - (intOf iv).toNat)
  case atStart => exact ⟨0, [], [], 0, 0, false, by omega, by omega, rfl, rfl, rfl, rfl, Rg.new, View.nil_ _ _, View.nil_ _ _, (fun j hj => by cases hj), ⟨alloc_at _ _, rfl, rfl⟩, HB0.out.alloc HB0.out.size _, HB0.out.size⟩
  case round =>
    obtain ⟨k, I, O, tk, c, l, hk, hk2, rfl, rfl, rfl, rfl, hrg, hos⟩ := hrel
    have RG := Lib.hid hrg
    have OS := Lib.hid hos
    clear hrg hos HB0
    generalize w0.heap.size = gu at *
    by_cases hlt : k < len ∧ k < 200
    · obtain ⟨h1, h2⟩ := hlt
      obtain ⟨a, rfl, hab, wh, b, hwh, hb8, hc1, hc2⟩ := HA.out k h1
      have q1 := (OS.out.bw.cell (World.block_lt_of_cell? w _ hc1)).trans hc1
      have q2 := cell_next ((OS.out.bw.cell (World.block_lt_of_cell? w _ hc2)).trans hc2)
      have d1 : (k : Int) < (len : Int) := by omega
      have d2 : (k : Int) < 200 := by omega
      obtain ⟨Ai, ci, hvi⟩ := OS.out.formI
      obtain ⟨Ao, co, hvo⟩ := OS.out.formO
      subst hvi
      subst hvo
      clear hab hc1 hc2
      obtain ⟨mm, hm, hm13⟩ : ∃ m : Nat, (wh : Int) % 13 = (m : Int) ∧ m < 13 := ⟨wh % 13, by omega, by omega⟩
      go_upto_block 2 with fail
      clear q1 q2
      rw [hm]
      clear hm hwh
      have C8 := Lib.hid RG.out.c8
      go_cut [4, 5, 6, 7, 8] (fun vi vo tv cv lv wx => ∃ (W : World) (I O : List Nat) (tk c : Nat) (l : Bool), W = wx ∧ tv = .int .i64 tk ∧ cv = .int .u8 c ∧ lv = .bool l ∧ Rg I O c tk ∧ Os w W gu vi vo I O (I.length : Nat) (pad I) (O.length : Nat) (pad O) l c tk)
      case first =>
        by_cases ha : mm = 0 ∨ mm = 1
        · rcases ha with rfl | rfl
          ·
            have KA := Lib.hid (fun W => rt_arrive (l := l) H W RG.out b hb8)
            have RG2 := Lib.hid (RG.out.addI hb8)
            by_cases h8 : I.length = 8
            · have e1 : addL I b = I := if_neg (by omega)
              have e2 : arriveL I l = true := if_neg (by omega)
              have e3 : asksU I c = false := by unfold asksU; rw [decide_eq_false (by omega)]; rfl
              rw [e1, e2, e3] at KA
              have dm : ¬ (I.length : Int) < 8 := by omega
              clear e1 e2 e3 h8
              as_aux_lemma =>
                go_wp2_with (first
      | ((with_reducible show wpList _ _ _ (⟨none, .store 26 (.tmp 3) (.tmp 120), _, _, _, _⟩ :: _) _ _); refine wpList_store_u rfl 26 _ _ rfl gu (by exact rfl) (by exact rfl) (pad_length _) (pad_length _) (by kernel_rfl) 26 OS2.out.u ?_; intro W3 HN HO HB
         have OS3 := Lib.hid (OS2.out.setU HN.out HO.out HB.out)
         clear HN HO HB)
      | ((with_reducible show wpList _ _ _ (⟨some 120, .load 26 (.tmp 11), _, _, _, _⟩ :: _) _ _); refine wpList_load_u (by rfl) 26 _ rfl (W1.heap.size) (by exact rfl) _ Try.underlying26 (by kernel_rfl) 26 VR.out ?_)
      | ((with_reducible show wpList _ _ _ (⟨none, .store 26 (.tmp 11) (.tmp 101), _, _, _, _⟩ :: _) _ _); refine wpList_store_u rfl 26 _ _ rfl (W1.heap.size) (by exact rfl) (by exact rfl) (pad_length _) (pad_length _) (by kernel_rfl) 26 (show URow _ _ _ 0 Z8 0 Z8 false 0 0 from ⟨alloc_at _ _, rfl, rfl⟩) ?_; intro W2 HN HO HB
         have OS2 := Lib.hid (OS1.out.under (((Below.refl _ _).alloc (Nat.le_refl _) _).trans HB.out))
         have VR : Hid (URow W2 W1.heap.size 26 ((I).length : Nat) (pad (I)) ((O).length : Nat) (pad (O)) true c tk) := HN
         have NA := Lib.hid (fun j hj => Nat.ne_of_lt (OS1.out.a.blk j hj).2)
         have NB := Lib.hid (fun j hj => Nat.ne_of_lt (OS1.out.b.blk j hj).2)
         clear HN HO HB)
      | (go_at_call 12; refine (KA.out _).mono ?_; rintro e W1 ⟨rfl, hB⟩
         have OS1 := Lib.hid (OS.out.under hB)
         clear hB)
      | ((with_reducible show wpList _ _ _ (⟨some 98, .load 26 (.tmp 3), _, _, _, _⟩ :: _) _ _); refine wpList_load_u (by rfl) 26 _ rfl gu (by exact rfl) _ Try.underlying26 (by kernel_rfl) 26 OS.out.u ?_))
                go_meet
                case rel => exact ⟨_, I, O, tk, c, true, rfl, rfl, rfl, rfl, RG.out, OS3.out⟩
            · have dm : (I.length : Int) < 8 := by have := RG.out.i8; omega
              have hlt8 : I.length < 8 := by omega
              obtain ⟨J, hJ⟩ : ∃ J, I ++ [b] = J := ⟨_, rfl⟩
              have e1 : addL I b = J := (if_pos hlt8).trans hJ
              have e2 : arriveL I l = l := if_pos hlt8
              obtain ⟨b2, hb2⟩ : ∃ b2, decide (c % 2 = 1) = b2 := ⟨_, rfl⟩
              have e3 : asksU I c = b2 := by unfold asksU; rw [decide_eq_true hlt8, Bool.true_and, hb2]
              have hs := bit_and1 c C8.out
              have hs2 : bits .and .u8 (c : Int) 1 = if b2 = true then 1 else 0 := by rw [hs, ← hb2]; simp
              rw [e1, e2, e3] at KA
              rw [e1] at RG2
              have HJ := Lib.hid hJ
              clear e1 e2 e3 hs hb2 hJ hlt8 h8
              cases b2
              · replace hs2 : bits .and .u8 (c : Int) 1 = 0 := hs2
                as_aux_lemma =>
                  go_wp2_with (first
      | ((with_reducible show wpList _ _ _ (⟨none, .store 26 (.tmp 3) (.tmp 120), _, _, _, _⟩ :: _) _ _); refine wpList_store_u rfl 26 _ _ rfl gu (by exact rfl) (by exact rfl) (pad_length _) (pad_length _) (by kernel_rfl) 26 OS3.out.u ?_; intro W4 HN HO HB
         have OS4 := Lib.hid (OS3.out.setU HN.out HO.out HB.out)
         clear HN HO HB)
      | ((with_reducible show wpList _ _ _ (⟨some 120, .load 26 (.tmp 11), _, _, _, _⟩ :: _) _ _); refine wpList_load_u (by rfl) 26 _ rfl (W1.heap.size) (by exact rfl) _ Try.underlying26 (by kernel_rfl) 26 VR.out ?_)
      | ((with_reducible show wpList _ _ _ (⟨some 119, _, _, _, _, _⟩ :: _) _ _); refine wpList_append_view rfl (.tmp 116) (.tmp 118) rfl (gu + 1) _ I (by exact rfl) (OS2.out.a.below ((Below.refl _ _).alloc (Nat.le_refl _) _)) (by have := RG.out.i8; omega) (Nat.le_trans OS2.out.gl (by simp)) ⟨W2.heap.size, 0, none⟩ b (by exact rfl) (row_at (cs := [.int .u8 (b : Int)]) (alloc_at _ _) 0 _ rfl) ?_; intro v4 W3 HV4 HG4 HF4 HK4; obtain ⟨A4, c4, rfl⟩ := HF4.out
         have OS3 := Lib.hid ((OS2.out.under ((Below.refl _ _).alloc (Nat.le_refl _) _)).appI HV4.out HG4.out HK4.out)
         have VR : Hid (URow W3 W1.heap.size 26 ((J).length : Nat) (pad (J)) ((O).length : Nat) (pad (O)) l c tk) := Lib.hid ⟨(HG4.out.block _ (by have := VR.out.lt; simp; omega) (fun e => NA.out _ e.symm rfl)).trans (VR.out.below ((Below.refl _ _).alloc (Nat.le_refl _) _) VR.out.lt).v, VR.out.hb, VR.out.hc⟩
         clear HV4 HG4 HF4 HK4)
      | ((with_reducible show wpList _ _ _ (⟨none, .store 26 (.tmp 11) (.tmp 101), _, _, _, _⟩ :: _) _ _); refine wpList_store_u rfl 26 _ _ rfl (W1.heap.size) (by exact rfl) (by exact rfl) (pad_length _) (pad_length _) (by kernel_rfl) 26 (show URow _ _ _ 0 Z8 0 Z8 false 0 0 from ⟨alloc_at _ _, rfl, rfl⟩) ?_; intro W2 HN HO HB
         have OS2 := Lib.hid (OS1.out.under (((Below.refl _ _).alloc (Nat.le_refl _) _).trans HB.out))
         have VR : Hid (URow W2 W1.heap.size 26 ((J).length : Nat) (pad (J)) ((O).length : Nat) (pad (O)) l c tk) := HN
         have NA := Lib.hid (fun j hj => Nat.ne_of_lt (OS1.out.a.blk j hj).2)
         have NB := Lib.hid (fun j hj => Nat.ne_of_lt (OS1.out.b.blk j hj).2)
         clear HN HO HB)
      | (go_at_call 12; refine (KA.out _).mono ?_; rintro e W1 ⟨rfl, hB⟩
         have OS1 := Lib.hid (OS.out.under hB)
         clear hB)
      | ((with_reducible show wpList _ _ _ (⟨some 98, .load 26 (.tmp 3), _, _, _, _⟩ :: _) _ _); refine wpList_load_u (by rfl) 26 _ rfl gu (by exact rfl) _ Try.underlying26 (by kernel_rfl) 26 OS.out.u ?_))
                  go_meet
                  case rel => exact ⟨_, J, O, tk, c, l, rfl, rfl, rfl, rfl, RG2.out, by have h := OS4.out; rw [HJ.out] at h; exact h⟩
              · replace hs2 : bits .and .u8 (c : Int) 1 = 1 := hs2
                as_aux_lemma =>
                  go_wp2_with (first
      | ((with_reducible show wpList _ _ _ (⟨none, .store 26 (.tmp 3) (.tmp 120), _, _, _, _⟩ :: _) _ _); refine wpList_store_u rfl 26 _ _ rfl gu (by exact rfl) (by exact rfl) (pad_length _) (pad_length _) (by kernel_rfl) 26 OS3.out.u ?_; intro W4 HN HO HB
         have OS4 := Lib.hid (OS3.out.setU HN.out HO.out HB.out)
         clear HN HO HB)
      | ((with_reducible show wpList _ _ _ (⟨some 120, .load 26 (.tmp 11), _, _, _, _⟩ :: _) _ _); refine wpList_load_u (by rfl) 26 _ rfl (W1.heap.size) (by exact rfl) _ Try.underlying26 (by kernel_rfl) 26 VR.out ?_)
      | ((with_reducible show wpList _ _ _ (⟨some 119, _, _, _, _, _⟩ :: _) _ _); refine wpList_append_view rfl (.tmp 116) (.tmp 118) rfl (gu + 1) _ I (by exact rfl) (OS2.out.a.below ((Below.refl _ _).alloc (Nat.le_refl _) _)) (by have := RG.out.i8; omega) (Nat.le_trans OS2.out.gl (by simp)) ⟨W2.heap.size, 0, none⟩ b (by exact rfl) (row_at (cs := [.int .u8 (b : Int)]) (alloc_at _ _) 0 _ rfl) ?_; intro v4 W3 HV4 HG4 HF4 HK4; obtain ⟨A4, c4, rfl⟩ := HF4.out
         have OS3 := Lib.hid ((OS2.out.under ((Below.refl _ _).alloc (Nat.le_refl _) _)).appI HV4.out HG4.out HK4.out)
         have VR : Hid (URow W3 W1.heap.size 26 ((J).length : Nat) (pad (J)) ((O).length : Nat) (pad (O)) l c tk) := Lib.hid ⟨(HG4.out.block _ (by have := VR.out.lt; simp; omega) (fun e => NA.out _ e.symm rfl)).trans (VR.out.below ((Below.refl _ _).alloc (Nat.le_refl _) _) VR.out.lt).v, VR.out.hb, VR.out.hc⟩
         clear HV4 HG4 HF4 HK4)
      | ((with_reducible show wpList _ _ _ (⟨none, .store 26 (.tmp 11) (.tmp 101), _, _, _, _⟩ :: _) _ _); refine wpList_store_u rfl 26 _ _ rfl (W1.heap.size) (by exact rfl) (by exact rfl) (pad_length _) (pad_length _) (by kernel_rfl) 26 (show URow _ _ _ 0 Z8 0 Z8 false 0 0 from ⟨alloc_at _ _, rfl, rfl⟩) ?_; intro W2 HN HO HB
         have OS2 := Lib.hid (OS1.out.under (((Below.refl _ _).alloc (Nat.le_refl _) _).trans HB.out))
         have VR : Hid (URow W2 W1.heap.size 26 ((J).length : Nat) (pad (J)) ((O).length : Nat) (pad (O)) l c tk) := HN
         have NA := Lib.hid (fun j hj => Nat.ne_of_lt (OS1.out.a.blk j hj).2)
         have NB := Lib.hid (fun j hj => Nat.ne_of_lt (OS1.out.b.blk j hj).2)
         clear HN HO HB)
      | (go_at_call 12; refine (KA.out _).mono ?_; rintro e W1 ⟨rfl, hB⟩
         have OS1 := Lib.hid (OS.out.under hB)
         clear hB)
      | ((with_reducible show wpList _ _ _ (⟨some 98, .load 26 (.tmp 3), _, _, _, _⟩ :: _) _ _); refine wpList_load_u (by rfl) 26 _ rfl gu (by exact rfl) _ Try.underlying26 (by kernel_rfl) 26 OS.out.u ?_))
                  go_meet
                  case rel => exact ⟨_, J, O, tk, c, l, rfl, rfl, rfl, rfl, RG2.out, by have h := OS4.out; rw [HJ.out] at h; exact h⟩
          ·
            have KA := Lib.hid (fun W => rt_arrive (l := l) H W RG.out b hb8)
            have RG2 := Lib.hid (RG.out.addI hb8)
            by_cases h8 : I.length = 8
            · have e1 : addL I b = I := if_neg (by omega)
              have e2 : arriveL I l = true := if_neg (by omega)
              have e3 : asksU I c = false := by unfold asksU; rw [decide_eq_false (by omega)]; rfl
              rw [e1, e2, e3] at KA
              have dm : ¬ (I.length : Int) < 8 := by omega
              clear e1 e2 e3 h8
              as_aux_lemma =>
                go_wp2_with (first
      | ((with_reducible show wpList _ _ _ (⟨none, .store 26 (.tmp 3) (.tmp 120), _, _, _, _⟩ :: _) _ _); refine wpList_store_u rfl 26 _ _ rfl gu (by exact rfl) (by exact rfl) (pad_length _) (pad_length _) (by kernel_rfl) 26 OS2.out.u ?_; intro W3 HN HO HB
         have OS3 := Lib.hid (OS2.out.setU HN.out HO.out HB.out)
         clear HN HO HB)
      | ((with_reducible show wpList _ _ _ (⟨some 120, .load 26 (.tmp 11), _, _, _, _⟩ :: _) _ _); refine wpList_load_u (by rfl) 26 _ rfl (W1.heap.size) (by exact rfl) _ Try.underlying26 (by kernel_rfl) 26 VR.out ?_)
      | ((with_reducible show wpList _ _ _ (⟨none, .store 26 (.tmp 11) (.tmp 101), _, _, _, _⟩ :: _) _ _); refine wpList_store_u rfl 26 _ _ rfl (W1.heap.size) (by exact rfl) (by exact rfl) (pad_length _) (pad_length _) (by kernel_rfl) 26 (show URow _ _ _ 0 Z8 0 Z8 false 0 0 from ⟨alloc_at _ _, rfl, rfl⟩) ?_; intro W2 HN HO HB
         have OS2 := Lib.hid (OS1.out.under (((Below.refl _ _).alloc (Nat.le_refl _) _).trans HB.out))
         have VR : Hid (URow W2 W1.heap.size 26 ((I).length : Nat) (pad (I)) ((O).length : Nat) (pad (O)) true c tk) := HN
         have NA := Lib.hid (fun j hj => Nat.ne_of_lt (OS1.out.a.blk j hj).2)
         have NB := Lib.hid (fun j hj => Nat.ne_of_lt (OS1.out.b.blk j hj).2)
         clear HN HO HB)
      | (go_at_call 12; refine (KA.out _).mono ?_; rintro e W1 ⟨rfl, hB⟩
         have OS1 := Lib.hid (OS.out.under hB)
         clear hB)
      | ((with_reducible show wpList _ _ _ (⟨some 98, .load 26 (.tmp 3), _, _, _, _⟩ :: _) _ _); refine wpList_load_u (by rfl) 26 _ rfl gu (by exact rfl) _ Try.underlying26 (by kernel_rfl) 26 OS.out.u ?_))
                go_meet
                case rel => exact ⟨_, I, O, tk, c, true, rfl, rfl, rfl, rfl, RG.out, OS3.out⟩
            · have dm : (I.length : Int) < 8 := by have := RG.out.i8; omega
              have hlt8 : I.length < 8 := by omega
              obtain ⟨J, hJ⟩ : ∃ J, I ++ [b] = J := ⟨_, rfl⟩
              have e1 : addL I b = J := (if_pos hlt8).trans hJ
              have e2 : arriveL I l = l := if_pos hlt8
              obtain ⟨b2, hb2⟩ : ∃ b2, decide (c % 2 = 1) = b2 := ⟨_, rfl⟩
              have e3 : asksU I c = b2 := by unfold asksU; rw [decide_eq_true hlt8, Bool.true_and, hb2]
              have hs := bit_and1 c C8.out
              have hs2 : bits .and .u8 (c : Int) 1 = if b2 = true then 1 else 0 := by rw [hs, ← hb2]; simp
              rw [e1, e2, e3] at KA
              rw [e1] at RG2
              have HJ := Lib.hid hJ
              clear e1 e2 e3 hs hb2 hJ hlt8 h8
              cases b2
              · replace hs2 : bits .and .u8 (c : Int) 1 = 0 := hs2
                as_aux_lemma =>
                  go_wp2_with (first
      | ((with_reducible show wpList _ _ _ (⟨none, .store 26 (.tmp 3) (.tmp 120), _, _, _, _⟩ :: _) _ _); refine wpList_store_u rfl 26 _ _ rfl gu (by exact rfl) (by exact rfl) (pad_length _) (pad_length _) (by kernel_rfl) 26 OS3.out.u ?_; intro W4 HN HO HB
         have OS4 := Lib.hid (OS3.out.setU HN.out HO.out HB.out)
         clear HN HO HB)
      | ((with_reducible show wpList _ _ _ (⟨some 120, .load 26 (.tmp 11), _, _, _, _⟩ :: _) _ _); refine wpList_load_u (by rfl) 26 _ rfl (W1.heap.size) (by exact rfl) _ Try.underlying26 (by kernel_rfl) 26 VR.out ?_)
      | ((with_reducible show wpList _ _ _ (⟨some 119, _, _, _, _, _⟩ :: _) _ _); refine wpList_append_view rfl (.tmp 116) (.tmp 118) rfl (gu + 1) _ I (by exact rfl) (OS2.out.a.below ((Below.refl _ _).alloc (Nat.le_refl _) _)) (by have := RG.out.i8; omega) (Nat.le_trans OS2.out.gl (by simp)) ⟨W2.heap.size, 0, none⟩ b (by exact rfl) (row_at (cs := [.int .u8 (b : Int)]) (alloc_at _ _) 0 _ rfl) ?_; intro v4 W3 HV4 HG4 HF4 HK4; obtain ⟨A4, c4, rfl⟩ := HF4.out
         have OS3 := Lib.hid ((OS2.out.under ((Below.refl _ _).alloc (Nat.le_refl _) _)).appI HV4.out HG4.out HK4.out)
         have VR : Hid (URow W3 W1.heap.size 26 ((J).length : Nat) (pad (J)) ((O).length : Nat) (pad (O)) l c tk) := Lib.hid ⟨(HG4.out.block _ (by have := VR.out.lt; simp; omega) (fun e => NA.out _ e.symm rfl)).trans (VR.out.below ((Below.refl _ _).alloc (Nat.le_refl _) _) VR.out.lt).v, VR.out.hb, VR.out.hc⟩
         clear HV4 HG4 HF4 HK4)
      | ((with_reducible show wpList _ _ _ (⟨none, .store 26 (.tmp 11) (.tmp 101), _, _, _, _⟩ :: _) _ _); refine wpList_store_u rfl 26 _ _ rfl (W1.heap.size) (by exact rfl) (by exact rfl) (pad_length _) (pad_length _) (by kernel_rfl) 26 (show URow _ _ _ 0 Z8 0 Z8 false 0 0 from ⟨alloc_at _ _, rfl, rfl⟩) ?_; intro W2 HN HO HB
         have OS2 := Lib.hid (OS1.out.under (((Below.refl _ _).alloc (Nat.le_refl _) _).trans HB.out))
         have VR : Hid (URow W2 W1.heap.size 26 ((J).length : Nat) (pad (J)) ((O).length : Nat) (pad (O)) l c tk) := HN
         have NA := Lib.hid (fun j hj => Nat.ne_of_lt (OS1.out.a.blk j hj).2)
         have NB := Lib.hid (fun j hj => Nat.ne_of_lt (OS1.out.b.blk j hj).2)
         clear HN HO HB)
      | (go_at_call 12; refine (KA.out _).mono ?_; rintro e W1 ⟨rfl, hB⟩
         have OS1 := Lib.hid (OS.out.under hB)
         clear hB)
      | ((with_reducible show wpList _ _ _ (⟨some 98, .load 26 (.tmp 3), _, _, _, _⟩ :: _) _ _); refine wpList_load_u (by rfl) 26 _ rfl gu (by exact rfl) _ Try.underlying26 (by kernel_rfl) 26 OS.out.u ?_))
                  go_meet
                  case rel => exact ⟨_, J, O, tk, c, l, rfl, rfl, rfl, rfl, RG2.out, by have h := OS4.out; rw [HJ.out] at h; exact h⟩
              · replace hs2 : bits .and .u8 (c : Int) 1 = 1 := hs2
                as_aux_lemma =>
                  go_wp2_with (first
      | ((with_reducible show wpList _ _ _ (⟨none, .store 26 (.tmp 3) (.tmp 120), _, _, _, _⟩ :: _) _ _); refine wpList_store_u rfl 26 _ _ rfl gu (by exact rfl) (by exact rfl) (pad_length _) (pad_length _) (by kernel_rfl) 26 OS3.out.u ?_; intro W4 HN HO HB
         have OS4 := Lib.hid (OS3.out.setU HN.out HO.out HB.out)
         clear HN HO HB)
      | ((with_reducible show wpList _ _ _ (⟨some 120, .load 26 (.tmp 11), _, _, _, _⟩ :: _) _ _); refine wpList_load_u (by rfl) 26 _ rfl (W1.heap.size) (by exact rfl) _ Try.underlying26 (by kernel_rfl) 26 VR.out ?_)
      | ((with_reducible show wpList _ _ _ (⟨some 119, _, _, _, _, _⟩ :: _) _ _); refine wpList_append_view rfl (.tmp 116) (.tmp 118) rfl (gu + 1) _ I (by exact rfl) (OS2.out.a.below ((Below.refl _ _).alloc (Nat.le_refl _) _)) (by have := RG.out.i8; omega) (Nat.le_trans OS2.out.gl (by simp)) ⟨W2.heap.size, 0, none⟩ b (by exact rfl) (row_at (cs := [.int .u8 (b : Int)]) (alloc_at _ _) 0 _ rfl) ?_; intro v4 W3 HV4 HG4 HF4 HK4; obtain ⟨A4, c4, rfl⟩ := HF4.out
         have OS3 := Lib.hid ((OS2.out.under ((Below.refl _ _).alloc (Nat.le_refl _) _)).appI HV4.out HG4.out HK4.out)
         have VR : Hid (URow W3 W1.heap.size 26 ((J).length : Nat) (pad (J)) ((O).length : Nat) (pad (O)) l c tk) := Lib.hid ⟨(HG4.out.block _ (by have := VR.out.lt; simp; omega) (fun e => NA.out _ e.symm rfl)).trans (VR.out.below ((Below.refl _ _).alloc (Nat.le_refl _) _) VR.out.lt).v, VR.out.hb, VR.out.hc⟩
         clear HV4 HG4 HF4 HK4)
      | ((with_reducible show wpList _ _ _ (⟨none, .store 26 (.tmp 11) (.tmp 101), _, _, _, _⟩ :: _) _ _); refine wpList_store_u rfl 26 _ _ rfl (W1.heap.size) (by exact rfl) (by exact rfl) (pad_length _) (pad_length _) (by kernel_rfl) 26 (show URow _ _ _ 0 Z8 0 Z8 false 0 0 from ⟨alloc_at _ _, rfl, rfl⟩) ?_; intro W2 HN HO HB
         have OS2 := Lib.hid (OS1.out.under (((Below.refl _ _).alloc (Nat.le_refl _) _).trans HB.out))
         have VR : Hid (URow W2 W1.heap.size 26 ((J).length : Nat) (pad (J)) ((O).length : Nat) (pad (O)) l c tk) := HN
         have NA := Lib.hid (fun j hj => Nat.ne_of_lt (OS1.out.a.blk j hj).2)
         have NB := Lib.hid (fun j hj => Nat.ne_of_lt (OS1.out.b.blk j hj).2)
         clear HN HO HB)
      | (go_at_call 12; refine (KA.out _).mono ?_; rintro e W1 ⟨rfl, hB⟩
         have OS1 := Lib.hid (OS.out.under hB)
         clear hB)
      | ((with_reducible show wpList _ _ _ (⟨some 98, .load 26 (.tmp 3), _, _, _, _⟩ :: _) _ _); refine wpList_load_u (by rfl) 26 _ rfl gu (by exact rfl) _ Try.underlying26 (by kernel_rfl) 26 OS.out.u ?_))
                  go_meet
                  case rel => exact ⟨_, J, O, tk, c, l, rfl, rfl, rfl, rfl, RG2.out, by have h := OS4.out; rw [HJ.out] at h; exact h⟩
        by_cases hb' : mm = 2 ∨ mm = 3
        · rcases hb' with rfl | rfl
          ·
            have KB := Lib.hid (fun W => rt_read3 (l := l) H W RG.out)
            have RG2 := Lib.hid RG.out.cutI
            cases I with
            | nil =>
              replace KB : Hid (∀ W : World, Calls Try.prog 13 #[ur [] O l c tk, .int .i64 3] W fun e w' => e = .returned (.tuple #[.int .i32 0, ur [] O l c tk]) ∧ Below W.heap.size W w') := KB
              have dz : (([] : List Nat).length : Int) = 0 := rfl
              as_aux_lemma =>
                go_wp2_with (first
      | ((with_reducible show wpList _ _ _ (⟨none, .store 26 (.tmp 3) (.tmp 154), _, _, _, _⟩ :: _) _ _); refine wpList_store_u rfl 26 _ _ rfl gu (by exact rfl) (by exact rfl) (pad_length _) (pad_length _) (by kernel_rfl) 26 OS2.out.u ?_; intro W3 HN HO HB
         have OS3 := Lib.hid (OS2.out.setU HN.out HO.out HB.out)
         clear HN HO HB)
      | ((with_reducible show wpList _ _ _ (⟨some 154, .load 26 (.tmp 14), _, _, _, _⟩ :: _) _ _); refine wpList_load_u (by rfl) 26 _ rfl (W1.heap.size) (by exact rfl) _ Try.underlying26 (by kernel_rfl) 26 VR.out ?_)
      | ((with_reducible show wpList _ _ _ (⟨none, .store 26 (.tmp 14) (.tmp 128), _, _, _, _⟩ :: _) _ _); refine wpList_store_u rfl 26 _ _ rfl (W1.heap.size) (by exact rfl) (by exact rfl) (pad_length _) (pad_length _) (by kernel_rfl) 26 (show URow _ _ _ 0 Z8 0 Z8 false 0 0 from ⟨alloc_at _ _, rfl, rfl⟩) ?_; intro W2 HN HO HB
         have OS2 := Lib.hid (OS1.out.under (((Below.refl _ _).alloc (Nat.le_refl _) _).trans HB.out))
         have VR : Hid (URow W2 W1.heap.size 26 ((([] : List Nat)).length : Nat) (pad (([] : List Nat))) ((O).length : Nat) (pad (O)) l c tk) := HN
         have NA := Lib.hid (fun j hj => Nat.ne_of_lt (OS1.out.a.blk j hj).2)
         have NB := Lib.hid (fun j hj => Nat.ne_of_lt (OS1.out.b.blk j hj).2)
         clear HN HO HB)
      | (go_at_call 13; refine (KB.out _).mono ?_; rintro e W1 ⟨rfl, hB⟩
         have OS1 := Lib.hid (OS.out.under hB)
         clear hB)
      | ((with_reducible show wpList _ _ _ (⟨some 125, .load 26 (.tmp 3), _, _, _, _⟩ :: _) _ _); refine wpList_load_u (by rfl) 26 _ rfl gu (by exact rfl) _ Try.underlying26 (by kernel_rfl) 26 OS.out.u ?_))
                go_meet
                case rel => exact ⟨_, [], O, tk, c, l, rfl, rfl, rfl, rfl, RG.out, OS3.out⟩
            | cons x r =>
              replace KB : Hid (∀ W : World, Calls Try.prog 13 #[ur (x :: r) O l c tk, .int .i64 3] W fun e w' => e = .returned (.tuple #[.int .i32 (x : Int), ur r O l c tk]) ∧ Below W.heap.size W w') := KB
              replace RG2 : Hid (Rg r O c tk) := RG2
              have hx8 : x < 256 := RG.out.ib x List.mem_cons_self
              obtain ⟨gv, off, cap2, hv2, hcap2, -, -⟩ := OS.out.cutI
              injection hv2 with e1 e2 e3
              subst e1
              subst e3
              have HS := fun W => run_cutV gv off r.length ci hcap2 W
              have CUT : Hid (∀ {W : World} {n' : Int} {bs' : List Nat} {m' : Int} {cs' : List Nat} {l' : Bool} {c' k' : Nat}, Os w W gu (.slice (some ⟨gv, off, none⟩) (x :: r).length ci) (.slice Ao O.length co) (x :: r) O n' bs' m' cs' l' c' k' → W.cell? ⟨gv, off, none⟩ = some (.int .u8 (x : Int)) ∧ Os w W gu (cutV gv off r.length ci) (.slice Ao O.length co) r O n' bs' m' cs' l' c' k') := Lib.hid (fun h => by
                obtain ⟨g', o', cap', e, -, hce, ho⟩ := h.cutI
                injection e with e1 e2 e3
                injection e1 with e4
                injection e4 with e5 e6
                subst e5
                subst e6
                subst e3
                exact ⟨hce, ho⟩)
              obtain ⟨ln, hln⟩ : ∃ n, r.length = n := ⟨_, rfl⟩
              have dl : ((x :: r).length : Int) = (ln : Int) + 1 := by simp [hln]
              have dl2 : (x :: r).length = ln + 1 := by simp [hln]
              have hval : (Value.slice (some ⟨gv, off, none⟩) (x :: r).length ci) = Value.slice (some ⟨gv, off, none⟩) (ln + 1) ci := by rw [dl2]
              rw [hln] at HS CUT
              rw [hval] at CUT OS ⊢
              have dpos : (0 : Int) < (ln : Int) + 1 := by omega
              clear e2 hcap2 hval hln dl2
              as_aux_lemma =>
                go_wp2_with (first
      | ((with_reducible show wpList _ _ _ (⟨none, .store 26 (.tmp 3) (.tmp 154), _, _, _, _⟩ :: _) _ _); refine wpList_store_u rfl 26 _ _ rfl gu (by exact rfl) (by exact rfl) (pad_length _) (pad_length _) (by kernel_rfl) 26 OS2.out.u ?_; intro W3 HN HO HB
         have OS3 := Lib.hid (OS2.out.setU HN.out HO.out HB.out)
         clear HN HO HB)
      | ((with_reducible show wpList _ _ _ (⟨some 154, .load 26 (.tmp 14), _, _, _, _⟩ :: _) _ _); refine wpList_load_u (by rfl) 26 _ rfl (W1.heap.size) (by exact rfl) _ Try.underlying26 (by kernel_rfl) 26 VR.out ?_)
      | ((with_reducible show wpList _ _ _ (⟨none, .store 26 (.tmp 14) (.tmp 128), _, _, _, _⟩ :: _) _ _); refine wpList_store_u rfl 26 _ _ rfl (W1.heap.size) (by exact rfl) (by exact rfl) (pad_length _) (pad_length _) (by kernel_rfl) 26 (show URow _ _ _ 0 Z8 0 Z8 false 0 0 from ⟨alloc_at _ _, rfl, rfl⟩) ?_; intro W2 HN HO HB
         have OS2 := Lib.hid (OS1.out.under (((Below.refl _ _).alloc (Nat.le_refl _) _).trans HB.out))
         have VR : Hid (URow W2 W1.heap.size 26 ((r).length : Nat) (pad (r)) ((O).length : Nat) (pad (O)) l c tk) := HN
         have NA := Lib.hid (fun j hj => Nat.ne_of_lt (OS1.out.a.blk j hj).2)
         have NB := Lib.hid (fun j hj => Nat.ne_of_lt (OS1.out.b.blk j hj).2)
         have hce := (CUT.out OS2.out).1
         clear HN HO HB)
      | (go_at_call 13; refine (KB.out _).mono ?_; rintro e W1 ⟨rfl, hB⟩
         have OS1 := Lib.hid (OS.out.under hB)
         clear hB)
      | ((with_reducible show wpList _ _ _ (⟨some 125, .load 26 (.tmp 3), _, _, _, _⟩ :: _) _ _); refine wpList_load_u (by rfl) 26 _ rfl gu (by exact rfl) _ Try.underlying26 (by kernel_rfl) 26 OS.out.u ?_))
                go_meet
                case rel => exact ⟨_, r, O, tk, c, l, rfl, rfl, rfl, rfl, RG2.out, (CUT.out OS3.out).2⟩
          ·
            have KB := Lib.hid (fun W => rt_read3 (l := l) H W RG.out)
            have RG2 := Lib.hid RG.out.cutI
            cases I with
            | nil =>
              replace KB : Hid (∀ W : World, Calls Try.prog 13 #[ur [] O l c tk, .int .i64 3] W fun e w' => e = .returned (.tuple #[.int .i32 0, ur [] O l c tk]) ∧ Below W.heap.size W w') := KB
              have dz : (([] : List Nat).length : Int) = 0 := rfl
              as_aux_lemma =>
                go_wp2_with (first
      | ((with_reducible show wpList _ _ _ (⟨none, .store 26 (.tmp 3) (.tmp 154), _, _, _, _⟩ :: _) _ _); refine wpList_store_u rfl 26 _ _ rfl gu (by exact rfl) (by exact rfl) (pad_length _) (pad_length _) (by kernel_rfl) 26 OS2.out.u ?_; intro W3 HN HO HB
         have OS3 := Lib.hid (OS2.out.setU HN.out HO.out HB.out)
         clear HN HO HB)
      | ((with_reducible show wpList _ _ _ (⟨some 154, .load 26 (.tmp 14), _, _, _, _⟩ :: _) _ _); refine wpList_load_u (by rfl) 26 _ rfl (W1.heap.size) (by exact rfl) _ Try.underlying26 (by kernel_rfl) 26 VR.out ?_)
      | ((with_reducible show wpList _ _ _ (⟨none, .store 26 (.tmp 14) (.tmp 128), _, _, _, _⟩ :: _) _ _); refine wpList_store_u rfl 26 _ _ rfl (W1.heap.size) (by exact rfl) (by exact rfl) (pad_length _) (pad_length _) (by kernel_rfl) 26 (show URow _ _ _ 0 Z8 0 Z8 false 0 0 from ⟨alloc_at _ _, rfl, rfl⟩) ?_; intro W2 HN HO HB
         have OS2 := Lib.hid (OS1.out.under (((Below.refl _ _).alloc (Nat.le_refl _) _).trans HB.out))
         have VR : Hid (URow W2 W1.heap.size 26 ((([] : List Nat)).length : Nat) (pad (([] : List Nat))) ((O).length : Nat) (pad (O)) l c tk) := HN
         have NA := Lib.hid (fun j hj => Nat.ne_of_lt (OS1.out.a.blk j hj).2)
         have NB := Lib.hid (fun j hj => Nat.ne_of_lt (OS1.out.b.blk j hj).2)
         clear HN HO HB)
      | (go_at_call 13; refine (KB.out _).mono ?_; rintro e W1 ⟨rfl, hB⟩
         have OS1 := Lib.hid (OS.out.under hB)
         clear hB)
      | ((with_reducible show wpList _ _ _ (⟨some 125, .load 26 (.tmp 3), _, _, _, _⟩ :: _) _ _); refine wpList_load_u (by rfl) 26 _ rfl gu (by exact rfl) _ Try.underlying26 (by kernel_rfl) 26 OS.out.u ?_))
                go_meet
                case rel => exact ⟨_, [], O, tk, c, l, rfl, rfl, rfl, rfl, RG.out, OS3.out⟩
            | cons x r =>
              replace KB : Hid (∀ W : World, Calls Try.prog 13 #[ur (x :: r) O l c tk, .int .i64 3] W fun e w' => e = .returned (.tuple #[.int .i32 (x : Int), ur r O l c tk]) ∧ Below W.heap.size W w') := KB
              replace RG2 : Hid (Rg r O c tk) := RG2
              have hx8 : x < 256 := RG.out.ib x List.mem_cons_self
              obtain ⟨gv, off, cap2, hv2, hcap2, -, -⟩ := OS.out.cutI
              injection hv2 with e1 e2 e3
              subst e1
              subst e3
              have HS := fun W => run_cutV gv off r.length ci hcap2 W
              have CUT : Hid (∀ {W : World} {n' : Int} {bs' : List Nat} {m' : Int} {cs' : List Nat} {l' : Bool} {c' k' : Nat}, Os w W gu (.slice (some ⟨gv, off, none⟩) (x :: r).length ci) (.slice Ao O.length co) (x :: r) O n' bs' m' cs' l' c' k' → W.cell? ⟨gv, off, none⟩ = some (.int .u8 (x : Int)) ∧ Os w W gu (cutV gv off r.length ci) (.slice Ao O.length co) r O n' bs' m' cs' l' c' k') := Lib.hid (fun h => by
                obtain ⟨g', o', cap', e, -, hce, ho⟩ := h.cutI
                injection e with e1 e2 e3
                injection e1 with e4
                injection e4 with e5 e6
                subst e5
                subst e6
                subst e3
                exact ⟨hce, ho⟩)
              obtain ⟨ln, hln⟩ : ∃ n, r.length = n := ⟨_, rfl⟩
              have dl : ((x :: r).length : Int) = (ln : Int) + 1 := by simp [hln]
              have dl2 : (x :: r).length = ln + 1 := by simp [hln]
              have hval : (Value.slice (some ⟨gv, off, none⟩) (x :: r).length ci) = Value.slice (some ⟨gv, off, none⟩) (ln + 1) ci := by rw [dl2]
              rw [hln] at HS CUT
              rw [hval] at CUT OS ⊢
              have dpos : (0 : Int) < (ln : Int) + 1 := by omega
              clear e2 hcap2 hval hln dl2
              as_aux_lemma =>
                go_wp2_with (first
      | ((with_reducible show wpList _ _ _ (⟨none, .store 26 (.tmp 3) (.tmp 154), _, _, _, _⟩ :: _) _ _); refine wpList_store_u rfl 26 _ _ rfl gu (by exact rfl) (by exact rfl) (pad_length _) (pad_length _) (by kernel_rfl) 26 OS2.out.u ?_; intro W3 HN HO HB
         have OS3 := Lib.hid (OS2.out.setU HN.out HO.out HB.out)
         clear HN HO HB)
      | ((with_reducible show wpList _ _ _ (⟨some 154, .load 26 (.tmp 14), _, _, _, _⟩ :: _) _ _); refine wpList_load_u (by rfl) 26 _ rfl (W1.heap.size) (by exact rfl) _ Try.underlying26 (by kernel_rfl) 26 VR.out ?_)
      | ((with_reducible show wpList _ _ _ (⟨none, .store 26 (.tmp 14) (.tmp 128), _, _, _, _⟩ :: _) _ _); refine wpList_store_u rfl 26 _ _ rfl (W1.heap.size) (by exact rfl) (by exact rfl) (pad_length _) (pad_length _) (by kernel_rfl) 26 (show URow _ _ _ 0 Z8 0 Z8 false 0 0 from ⟨alloc_at _ _, rfl, rfl⟩) ?_; intro W2 HN HO HB
         have OS2 := Lib.hid (OS1.out.under (((Below.refl _ _).alloc (Nat.le_refl _) _).trans HB.out))
         have VR : Hid (URow W2 W1.heap.size 26 ((r).length : Nat) (pad (r)) ((O).length : Nat) (pad (O)) l c tk) := HN
         have NA := Lib.hid (fun j hj => Nat.ne_of_lt (OS1.out.a.blk j hj).2)
         have NB := Lib.hid (fun j hj => Nat.ne_of_lt (OS1.out.b.blk j hj).2)
         have hce := (CUT.out OS2.out).1
         clear HN HO HB)
      | (go_at_call 13; refine (KB.out _).mono ?_; rintro e W1 ⟨rfl, hB⟩
         have OS1 := Lib.hid (OS.out.under hB)
         clear hB)
      | ((with_reducible show wpList _ _ _ (⟨some 125, .load 26 (.tmp 3), _, _, _, _⟩ :: _) _ _); refine wpList_load_u (by rfl) 26 _ rfl gu (by exact rfl) _ Try.underlying26 (by kernel_rfl) 26 OS.out.u ?_))
                go_meet
                case rel => exact ⟨_, r, O, tk, c, l, rfl, rfl, rfl, rfl, RG2.out, (CUT.out OS3.out).2⟩
        by_cases hc' : mm = 4 ∨ mm = 5
        · rcases hc' with rfl | rfl
          ·
            have KC := Lib.hid (fun W => rt_write3 (l := l) H W RG.out ((b : Int) - 256) (by omega) (by omega))
            have RG2 := Lib.hid (RG.out.addO hb8)
            rw [lowN_less b hb8] at KC
            by_cases h8 : O.length = 8
            · have e1 : addL O b = O := if_neg (by omega)
              rw [e1] at KC
              have dm : ¬ (O.length : Int) < 8 := by omega
              clear e1 h8
              as_aux_lemma =>
                go_wp2_with (first
      | ((with_reducible show wpList _ _ _ (⟨none, .store 26 (.tmp 3) (.tmp 162), _, _, _, _⟩ :: _) _ _); refine wpList_store_u rfl 26 _ _ rfl gu (by exact rfl) (by exact rfl) (pad_length _) (pad_length _) (by kernel_rfl) 26 OS1.out.u ?_; intro W2 HN HO HB
         have OS2 := Lib.hid (OS1.out.setU HN.out HO.out HB.out)
         clear HN HO HB)
      | (go_at_call 14; refine (KC.out _).mono ?_; rintro e W1 ⟨rfl, hB⟩
         have OS1 := Lib.hid (OS.out.under hB)
         clear hB)
      | ((with_reducible show wpList _ _ _ (⟨some 158, .load 26 (.tmp 3), _, _, _, _⟩ :: _) _ _); refine wpList_load_u (by rfl) 26 _ rfl gu (by exact rfl) _ Try.underlying26 (by kernel_rfl) 26 OS.out.u ?_))
                go_meet
                case rel => exact ⟨_, I, O, tk, c, l, rfl, rfl, rfl, rfl, RG.out, OS2.out⟩
            · have dm : (O.length : Int) < 8 := by have := RG.out.o8; omega
              have hlt8 : O.length < 8 := by omega
              obtain ⟨J, hJ⟩ : ∃ J, O ++ [b] = J := ⟨_, rfl⟩
              have e1 : addL O b = J := (if_pos hlt8).trans hJ
              rw [e1] at KC RG2
              have HJ := Lib.hid hJ
              clear e1 hJ hlt8 h8
              as_aux_lemma =>
                go_wp2_with (first
      | ((with_reducible show wpList _ _ _ (⟨some 169, _, _, _, _, _⟩ :: _) _ _); refine wpList_append_view rfl (.tmp 166) (.tmp 168) rfl (gu + 1) _ O (by exact rfl) (OS2.out.b.below ((Below.refl _ _).alloc (Nat.le_refl _) _)) (by have := RG.out.o8; omega) (Nat.le_trans OS2.out.gl (by simp)) ⟨W2.heap.size, 0, none⟩ b (by exact rfl) (row_at (cs := [.int .u8 (b : Int)]) (alloc_at _ _) 0 _ rfl) ?_; intro v4 W3 HV4 HG4 HF4 HK4; obtain ⟨A4, c4, rfl⟩ := HF4.out
         have OS3 := Lib.hid ((OS2.out.under ((Below.refl _ _).alloc (Nat.le_refl _) _)).appO HV4.out HG4.out HK4.out)
         clear HV4 HG4 HF4 HK4)
      | ((with_reducible show wpList _ _ _ (⟨none, .store 26 (.tmp 3) (.tmp 162), _, _, _, _⟩ :: _) _ _); refine wpList_store_u rfl 26 _ _ rfl gu (by exact rfl) (by exact rfl) (pad_length _) (pad_length _) (by kernel_rfl) 26 OS1.out.u ?_; intro W2 HN HO HB
         have OS2 := Lib.hid (OS1.out.setU HN.out HO.out HB.out)
         clear HN HO HB)
      | (go_at_call 14; refine (KC.out _).mono ?_; rintro e W1 ⟨rfl, hB⟩
         have OS1 := Lib.hid (OS.out.under hB)
         clear hB)
      | ((with_reducible show wpList _ _ _ (⟨some 158, .load 26 (.tmp 3), _, _, _, _⟩ :: _) _ _); refine wpList_load_u (by rfl) 26 _ rfl gu (by exact rfl) _ Try.underlying26 (by kernel_rfl) 26 OS.out.u ?_))
                go_meet
                case rel => exact ⟨_, I, J, tk, c, l, rfl, rfl, rfl, rfl, RG2.out, by have h := OS3.out; rw [HJ.out] at h; exact h⟩
          ·
            have KC := Lib.hid (fun W => rt_write3 (l := l) H W RG.out ((b : Int) - 256) (by omega) (by omega))
            have RG2 := Lib.hid (RG.out.addO hb8)
            rw [lowN_less b hb8] at KC
            by_cases h8 : O.length = 8
            · have e1 : addL O b = O := if_neg (by omega)
              rw [e1] at KC
              have dm : ¬ (O.length : Int) < 8 := by omega
              clear e1 h8
              as_aux_lemma =>
                go_wp2_with (first
      | ((with_reducible show wpList _ _ _ (⟨none, .store 26 (.tmp 3) (.tmp 162), _, _, _, _⟩ :: _) _ _); refine wpList_store_u rfl 26 _ _ rfl gu (by exact rfl) (by exact rfl) (pad_length _) (pad_length _) (by kernel_rfl) 26 OS1.out.u ?_; intro W2 HN HO HB
         have OS2 := Lib.hid (OS1.out.setU HN.out HO.out HB.out)
         clear HN HO HB)
      | (go_at_call 14; refine (KC.out _).mono ?_; rintro e W1 ⟨rfl, hB⟩
         have OS1 := Lib.hid (OS.out.under hB)
         clear hB)
      | ((with_reducible show wpList _ _ _ (⟨some 158, .load 26 (.tmp 3), _, _, _, _⟩ :: _) _ _); refine wpList_load_u (by rfl) 26 _ rfl gu (by exact rfl) _ Try.underlying26 (by kernel_rfl) 26 OS.out.u ?_))
                go_meet
                case rel => exact ⟨_, I, O, tk, c, l, rfl, rfl, rfl, rfl, RG.out, OS2.out⟩
            · have dm : (O.length : Int) < 8 := by have := RG.out.o8; omega
              have hlt8 : O.length < 8 := by omega
              obtain ⟨J, hJ⟩ : ∃ J, O ++ [b] = J := ⟨_, rfl⟩
              have e1 : addL O b = J := (if_pos hlt8).trans hJ
              rw [e1] at KC RG2
              have HJ := Lib.hid hJ
              clear e1 hJ hlt8 h8
              as_aux_lemma =>
                go_wp2_with (first
      | ((with_reducible show wpList _ _ _ (⟨some 169, _, _, _, _, _⟩ :: _) _ _); refine wpList_append_view rfl (.tmp 166) (.tmp 168) rfl (gu + 1) _ O (by exact rfl) (OS2.out.b.below ((Below.refl _ _).alloc (Nat.le_refl _) _)) (by have := RG.out.o8; omega) (Nat.le_trans OS2.out.gl (by simp)) ⟨W2.heap.size, 0, none⟩ b (by exact rfl) (row_at (cs := [.int .u8 (b : Int)]) (alloc_at _ _) 0 _ rfl) ?_; intro v4 W3 HV4 HG4 HF4 HK4; obtain ⟨A4, c4, rfl⟩ := HF4.out
         have OS3 := Lib.hid ((OS2.out.under ((Below.refl _ _).alloc (Nat.le_refl _) _)).appO HV4.out HG4.out HK4.out)
         clear HV4 HG4 HF4 HK4)
      | ((with_reducible show wpList _ _ _ (⟨none, .store 26 (.tmp 3) (.tmp 162), _, _, _, _⟩ :: _) _ _); refine wpList_store_u rfl 26 _ _ rfl gu (by exact rfl) (by exact rfl) (pad_length _) (pad_length _) (by kernel_rfl) 26 OS1.out.u ?_; intro W2 HN HO HB
         have OS2 := Lib.hid (OS1.out.setU HN.out HO.out HB.out)
         clear HN HO HB)
      | (go_at_call 14; refine (KC.out _).mono ?_; rintro e W1 ⟨rfl, hB⟩
         have OS1 := Lib.hid (OS.out.under hB)
         clear hB)
      | ((with_reducible show wpList _ _ _ (⟨some 158, .load 26 (.tmp 3), _, _, _, _⟩ :: _) _ _); refine wpList_load_u (by rfl) 26 _ rfl gu (by exact rfl) _ Try.underlying26 (by kernel_rfl) 26 OS.out.u ?_))
                go_meet
                case rel => exact ⟨_, I, J, tk, c, l, rfl, rfl, rfl, rfl, RG2.out, by have h := OS3.out; rw [HJ.out] at h; exact h⟩
        by_cases h11 : mm = 11
        · subst h11
          have KD := Lib.hid (fun W => rt_write5 (l := l) H W RG.out (b : Int) (by omega) (by omega))
          have RG2 := Lib.hid (RG.out.ctl hb8)
          rw [lowN_small b hb8] at KD
          as_aux_lemma =>
            go_wp2_with (first
      | ((with_reducible show wpList _ _ _ (⟨none, .store 26 (.tmp 3) (.tmp 175), _, _, _, _⟩ :: _) _ _); refine wpList_store_u rfl 26 _ _ rfl gu (by exact rfl) (by exact rfl) (pad_length _) (pad_length _) (by kernel_rfl) 26 OS1.out.u ?_; intro W2 HN HO HB
         have OS2 := Lib.hid (OS1.out.setU HN.out HO.out HB.out)
         clear HN HO HB)
      | (go_at_call 14; refine (KD.out _).mono ?_; rintro e W1 ⟨rfl, hB⟩
         have OS1 := Lib.hid (OS.out.under hB)
         clear hB)
      | ((with_reducible show wpList _ _ _ (⟨some 172, .load 26 (.tmp 3), _, _, _, _⟩ :: _) _ _); refine wpList_load_u (by rfl) 26 _ rfl gu (by exact rfl) _ Try.underlying26 (by kernel_rfl) 26 OS.out.u ?_))
            go_meet
            case rel => exact ⟨_, I, O, tk, b, l, rfl, rfl, rfl, rfl, RG2.out, OS2.out⟩
        by_cases h12 : mm = 12
        · subst h12
          have KE := Lib.hid (fun W => rt_read4 (l := l) H W RG.out)
          generalize statU I O l = sv at KE
          as_aux_lemma =>
            go_wp2_with (first
      | ((with_reducible show wpList _ _ _ (⟨none, .store 26 (.tmp 3) (.tmp 183), _, _, _, _⟩ :: _) _ _); refine wpList_store_u rfl 26 _ _ rfl gu (by exact rfl) (by exact rfl) (pad_length _) (pad_length _) (by kernel_rfl) 26 OS1.out.u ?_; intro W2 HN HO HB
         have OS2 := Lib.hid (OS1.out.setU HN.out HO.out HB.out)
         clear HN HO HB)
      | (go_at_call 13; refine (KE.out _).mono ?_; rintro e W1 ⟨rfl, hB⟩
         have OS1 := Lib.hid (OS.out.under hB)
         clear hB)
      | ((with_reducible show wpList _ _ _ (⟨some 180, .load 26 (.tmp 3), _, _, _, _⟩ :: _) _ _); refine wpList_load_u (by rfl) 26 _ rfl gu (by exact rfl) _ Try.underlying26 (by kernel_rfl) 26 OS.out.u ?_))
            go_meet
            case rel => exact ⟨_, I, O, tk, c, false, rfl, rfl, rfl, rfl, RG.out, OS2.out⟩
        have g0 : ((mm : Int) == 0) = false := by simp; omega
        have g1 : ((mm : Int) == 1) = false := by simp; omega
        have g2 : ((mm : Int) == 2) = false := by simp; omega
        have g3 : ((mm : Int) == 3) = false := by simp; omega
        have g4 : ((mm : Int) == 4) = false := by simp; omega
        have g5 : ((mm : Int) == 5) = false := by simp; omega
        have g11 : ((mm : Int) == 11) = false := by simp; omega
        have g12 : ((mm : Int) == 12) = false := by simp; omega
        clear ha hb' hc' h11 h12 hm13
        have KT := Lib.hid (fun W => rt_tick (l := l) H W RG.out)
        have RG2 := Lib.hid RG.out.tick
        cases O with
        | nil =>
          have hk0 : tk = 0 := RG.out.k0 rfl
          subst hk0
          replace KT : Hid (∀ W : World, Calls Try.prog 15 #[ur I [] l c 0] W fun e w' => e = .returned (.tuple #[ur I [] l c 0, .int .u8 0, .bool false, .bool false]) ∧ Below W.heap.size W w') := KT
          have dz : (([] : List Nat).length : Int) = 0 := rfl
          as_aux_lemma =>
            go_wp2_with (first
      | ((with_reducible show wpList _ _ _ (⟨none, .store 26 (.tmp 3) (.tmp 93), _, _, _, _⟩ :: _) _ _); refine wpList_store_u rfl 26 _ _ rfl gu (by exact rfl) (by exact rfl) (pad_length _) (pad_length _) (by kernel_rfl) 26 OS2.out.u ?_; intro W3 HN HO HB
         have OS3 := Lib.hid (OS2.out.setU HN.out HO.out HB.out)
         clear HN HO HB)
      | ((with_reducible show wpList _ _ _ (⟨some 93, .load 26 (.tmp 15), _, _, _, _⟩ :: _) _ _); refine wpList_load_u (by rfl) 26 _ rfl (W1.heap.size) (by exact rfl) _ Try.underlying26 (by kernel_rfl) 26 VR.out ?_)
      | ((with_reducible show wpList _ _ _ (⟨none, .store 26 (.tmp 15) (.tmp 46), _, _, _, _⟩ :: _) _ _); refine wpList_store_u rfl 26 _ _ rfl (W1.heap.size) (by exact rfl) (by exact rfl) (pad_length _) (pad_length _) (by kernel_rfl) 26 (show URow _ _ _ 0 Z8 0 Z8 false 0 0 from ⟨alloc_at _ _, rfl, rfl⟩) ?_; intro W2 HN HO HB
         have OS2 := Lib.hid (OS1.out.under (((Below.refl _ _).alloc (Nat.le_refl _) _).trans HB.out))
         have VR : Hid (URow W2 W1.heap.size 26 ((I).length : Nat) (pad (I)) ((([] : List Nat)).length : Nat) (pad (([] : List Nat))) l c 0) := HN
         have NA := Lib.hid (fun j hj => Nat.ne_of_lt (OS1.out.a.blk j hj).2)
         have NB := Lib.hid (fun j hj => Nat.ne_of_lt (OS1.out.b.blk j hj).2)
         clear HN HO HB)
      | (go_at_call 15; refine (KT.out _).mono ?_; rintro e W1 ⟨rfl, hB⟩
         have OS1 := Lib.hid (OS.out.under hB)
         clear hB)
      | ((with_reducible show wpList _ _ _ (⟨some 44, .load 26 (.tmp 3), _, _, _, _⟩ :: _) _ _); refine wpList_load_u (by rfl) 26 _ rfl gu (by exact rfl) _ Try.underlying26 (by kernel_rfl) 26 OS.out.u ?_))
            go_meet
            case rel => exact ⟨_, I, [], 0, c, l, rfl, rfl, rfl, rfl, RG.out, OS3.out⟩
        | cons x r =>
          have hx8 : x < 256 := RG.out.ob x List.mem_cons_self
          obtain ⟨gv, off, cap2, hv2, hcap2, -, -⟩ := OS.out.cutO
          injection hv2 with e1 e2 e3
          subst e1
          subst e3
          have HS := fun W => run_cutV gv off r.length co hcap2 W
          have CUT : Hid (∀ {W : World} {n' : Int} {bs' : List Nat} {m' : Int} {cs' : List Nat} {l' : Bool} {c' k' : Nat}, Os w W gu (.slice Ai I.length ci) (.slice (some ⟨gv, off, none⟩) (x :: r).length co) I (x :: r) n' bs' m' cs' l' c' k' → W.cell? ⟨gv, off, none⟩ = some (.int .u8 (x : Int)) ∧ Os w W gu (.slice Ai I.length ci) (cutV gv off r.length co) I r n' bs' m' cs' l' c' k') := Lib.hid (fun h => by
            obtain ⟨g', o', cap', e, -, hce, ho⟩ := h.cutO
            injection e with e1 e2 e3
            injection e1 with e4
            injection e4 with e5 e6
            subst e5
            subst e6
            subst e3
            exact ⟨hce, ho⟩)
          have dl2 : (x :: r).length = r.length + 1 := rfl
          obtain ⟨ln, hln⟩ : ∃ n, r.length = n := ⟨_, rfl⟩
          have HLN := Lib.hid hln
          rw [hln] at HS CUT dl2
          have hval : (Value.slice (some ⟨gv, off, none⟩) (x :: r).length co) = Value.slice (some ⟨gv, off, none⟩) (ln + 1) co := by rw [dl2]
          rw [hval] at CUT OS ⊢
          have dpos : (0 : Int) < (ln : Int) + 1 := by omega
          obtain ⟨Ax, hAx⟩ : ∃ Ax, cutV gv off ln co = .slice Ax ln (co - 1) := ⟨_, rfl⟩
          rw [hAx] at HS CUT
          clear e2 hcap2 hval hln dl2 hAx
          have ht4 := RG.out.k4
          by_cases h3 : tk = 3
          · subst h3
            obtain ⟨b2, hb2⟩ : ∃ b2, decide (c / 2 % 2 = 1) = b2 := ⟨_, rfl⟩
            have hs2 : bits .and .u8 (c : Int) 2 = if b2 = true then 2 else 0 := by rw [bit_and2 c C8.out, ← hb2]; simp
            obtain ⟨q3, hq3⟩ : ∃ q3, tickQ (x :: r) c 3 = q3 := ⟨_, rfl⟩
            have hq4 : q3 = (r.isEmpty && b2) := by rw [← hq3, ← hb2]; rfl
            replace KT : Hid (∀ W : World, Calls Try.prog 15 #[ur I (x :: r) l c 3] W fun e w' => e = .returned (.tuple #[ur I r l c 0, .int .u8 (x : Int), .bool true, .bool q3]) ∧ Below W.heap.size W w') := by rw [← hq3]; exact KT
            replace RG2 : Hid (Rg I r c 0) := RG2
            clear hq3 hb2
            cases r with
            | nil =>
              have hl0 : ln = 0 := HLN.out.symm
              subst hl0
              replace hq4 : q3 = b2 := hq4
              subst hq4
              cases q3
              · replace hs2 : bits .and .u8 (c : Int) 2 = 0 := hs2
                as_aux_lemma =>
                  go_wp2_with (first
      | ((with_reducible show wpList _ _ _ (⟨none, .store 26 (.tmp 3) (.tmp 93), _, _, _, _⟩ :: _) _ _); refine wpList_store_u rfl 26 _ _ rfl gu (by exact rfl) (by exact rfl) (pad_length _) (pad_length _) (by kernel_rfl) 26 OS2.out.u ?_; intro W3 HN HO HB
         have OS3 := Lib.hid (OS2.out.setU HN.out HO.out HB.out)
         clear HN HO HB)
      | ((with_reducible show wpList _ _ _ (⟨some 93, .load 26 (.tmp 15), _, _, _, _⟩ :: _) _ _); refine wpList_load_u (by rfl) 26 _ rfl (W1.heap.size) (by exact rfl) _ Try.underlying26 (by kernel_rfl) 26 VR.out ?_)
      | ((with_reducible show wpList _ _ _ (⟨none, .store 26 (.tmp 15) (.tmp 46), _, _, _, _⟩ :: _) _ _); refine wpList_store_u rfl 26 _ _ rfl (W1.heap.size) (by exact rfl) (by exact rfl) (pad_length _) (pad_length _) (by kernel_rfl) 26 (show URow _ _ _ 0 Z8 0 Z8 false 0 0 from ⟨alloc_at _ _, rfl, rfl⟩) ?_; intro W2 HN HO HB
         have OS2 := Lib.hid (OS1.out.under (((Below.refl _ _).alloc (Nat.le_refl _) _).trans HB.out))
         have VR : Hid (URow W2 W1.heap.size 26 ((I).length : Nat) (pad (I)) ((([] : List Nat)).length : Nat) (pad (([] : List Nat))) l c 0) := HN
         have NA := Lib.hid (fun j hj => Nat.ne_of_lt (OS1.out.a.blk j hj).2)
         have NB := Lib.hid (fun j hj => Nat.ne_of_lt (OS1.out.b.blk j hj).2)
         have hce := (CUT.out OS2.out).1
         clear HN HO HB)
      | (go_at_call 15; refine (KT.out _).mono ?_; rintro e W1 ⟨rfl, hB⟩
         have OS1 := Lib.hid (OS.out.under hB)
         clear hB)
      | ((with_reducible show wpList _ _ _ (⟨some 44, .load 26 (.tmp 3), _, _, _, _⟩ :: _) _ _); refine wpList_load_u (by rfl) 26 _ rfl gu (by exact rfl) _ Try.underlying26 (by kernel_rfl) 26 OS.out.u ?_))
                  go_meet
                  case rel => exact ⟨_, I, [], 0, c, l, rfl, rfl, rfl, rfl, RG2.out, (CUT.out OS3.out).2⟩
              · replace hs2 : bits .and .u8 (c : Int) 2 = 2 := hs2
                as_aux_lemma =>
                  go_wp2_with (first
      | ((with_reducible show wpList _ _ _ (⟨none, .store 26 (.tmp 3) (.tmp 93), _, _, _, _⟩ :: _) _ _); refine wpList_store_u rfl 26 _ _ rfl gu (by exact rfl) (by exact rfl) (pad_length _) (pad_length _) (by kernel_rfl) 26 OS2.out.u ?_; intro W3 HN HO HB
         have OS3 := Lib.hid (OS2.out.setU HN.out HO.out HB.out)
         clear HN HO HB)
      | ((with_reducible show wpList _ _ _ (⟨some 93, .load 26 (.tmp 15), _, _, _, _⟩ :: _) _ _); refine wpList_load_u (by rfl) 26 _ rfl (W1.heap.size) (by exact rfl) _ Try.underlying26 (by kernel_rfl) 26 VR.out ?_)
      | ((with_reducible show wpList _ _ _ (⟨none, .store 26 (.tmp 15) (.tmp 46), _, _, _, _⟩ :: _) _ _); refine wpList_store_u rfl 26 _ _ rfl (W1.heap.size) (by exact rfl) (by exact rfl) (pad_length _) (pad_length _) (by kernel_rfl) 26 (show URow _ _ _ 0 Z8 0 Z8 false 0 0 from ⟨alloc_at _ _, rfl, rfl⟩) ?_; intro W2 HN HO HB
         have OS2 := Lib.hid (OS1.out.under (((Below.refl _ _).alloc (Nat.le_refl _) _).trans HB.out))
         have VR : Hid (URow W2 W1.heap.size 26 ((I).length : Nat) (pad (I)) ((([] : List Nat)).length : Nat) (pad (([] : List Nat))) l c 0) := HN
         have NA := Lib.hid (fun j hj => Nat.ne_of_lt (OS1.out.a.blk j hj).2)
         have NB := Lib.hid (fun j hj => Nat.ne_of_lt (OS1.out.b.blk j hj).2)
         have hce := (CUT.out OS2.out).1
         clear HN HO HB)
      | (go_at_call 15; refine (KT.out _).mono ?_; rintro e W1 ⟨rfl, hB⟩
         have OS1 := Lib.hid (OS.out.under hB)
         clear hB)
      | ((with_reducible show wpList _ _ _ (⟨some 44, .load 26 (.tmp 3), _, _, _, _⟩ :: _) _ _); refine wpList_load_u (by rfl) 26 _ rfl gu (by exact rfl) _ Try.underlying26 (by kernel_rfl) 26 OS.out.u ?_))
                  go_meet
                  case rel => exact ⟨_, I, [], 0, c, l, rfl, rfl, rfl, rfl, RG2.out, (CUT.out OS3.out).2⟩
            | cons y us =>
              replace hq4 : q3 = false := hq4
              subst hq4
              have hl1 : ¬ ln = 0 := by have := HLN.out; simp at this; omega
              have hl2 : ((ln : Int) == 0) = false := by simp; omega
              as_aux_lemma =>
                go_wp2_with (first
      | ((with_reducible show wpList _ _ _ (⟨none, .store 26 (.tmp 3) (.tmp 93), _, _, _, _⟩ :: _) _ _); refine wpList_store_u rfl 26 _ _ rfl gu (by exact rfl) (by exact rfl) (pad_length _) (pad_length _) (by kernel_rfl) 26 OS2.out.u ?_; intro W3 HN HO HB
         have OS3 := Lib.hid (OS2.out.setU HN.out HO.out HB.out)
         clear HN HO HB)
      | ((with_reducible show wpList _ _ _ (⟨some 93, .load 26 (.tmp 15), _, _, _, _⟩ :: _) _ _); refine wpList_load_u (by rfl) 26 _ rfl (W1.heap.size) (by exact rfl) _ Try.underlying26 (by kernel_rfl) 26 VR.out ?_)
      | ((with_reducible show wpList _ _ _ (⟨none, .store 26 (.tmp 15) (.tmp 46), _, _, _, _⟩ :: _) _ _); refine wpList_store_u rfl 26 _ _ rfl (W1.heap.size) (by exact rfl) (by exact rfl) (pad_length _) (pad_length _) (by kernel_rfl) 26 (show URow _ _ _ 0 Z8 0 Z8 false 0 0 from ⟨alloc_at _ _, rfl, rfl⟩) ?_; intro W2 HN HO HB
         have OS2 := Lib.hid (OS1.out.under (((Below.refl _ _).alloc (Nat.le_refl _) _).trans HB.out))
         have VR : Hid (URow W2 W1.heap.size 26 ((I).length : Nat) (pad (I)) (((y :: us)).length : Nat) (pad ((y :: us))) l c 0) := HN
         have NA := Lib.hid (fun j hj => Nat.ne_of_lt (OS1.out.a.blk j hj).2)
         have NB := Lib.hid (fun j hj => Nat.ne_of_lt (OS1.out.b.blk j hj).2)
         have hce := (CUT.out OS2.out).1
         clear HN HO HB)
      | (go_at_call 15; refine (KT.out _).mono ?_; rintro e W1 ⟨rfl, hB⟩
         have OS1 := Lib.hid (OS.out.under hB)
         clear hB)
      | ((with_reducible show wpList _ _ _ (⟨some 44, .load 26 (.tmp 3), _, _, _, _⟩ :: _) _ _); refine wpList_load_u (by rfl) 26 _ rfl gu (by exact rfl) _ Try.underlying26 (by kernel_rfl) 26 OS.out.u ?_))
                go_meet
                case rel => exact ⟨_, I, (y :: us), 0, c, l, rfl, rfl, rfl, rfl, RG2.out, (CUT.out OS3.out).2⟩
          · have hs : sendsU (x :: r) tk = false := by simp [sendsU, h3]
            have f1 : tickT (x :: r) tk = x :: r := if_neg (by rw [hs]; decide)
            have f2 : tickK (x :: r) tk = tk + 1 := (if_neg (by simp)).trans (if_neg h3)
            have f3 : tickB (x :: r) tk = 0 := if_neg (by rw [hs]; decide)
            have f4 : tickQ (x :: r) c tk = false := by unfold tickQ; rw [hs]; rfl
            rw [hs, f1, f2, f3, f4] at KT
            rw [f1, f2] at RG2
            clear hs f1 f2 f3 f4
            have d3 : ¬ ((tk : Int) + 1 = 4) := by omega
            have d4 : ((tk : Int) + 1 == 4) = false := by simp; omega
            as_aux_lemma =>
              go_wp2_with (first
      | ((with_reducible show wpList _ _ _ (⟨none, .store 26 (.tmp 3) (.tmp 93), _, _, _, _⟩ :: _) _ _); refine wpList_store_u rfl 26 _ _ rfl gu (by exact rfl) (by exact rfl) (pad_length _) (pad_length _) (by kernel_rfl) 26 OS2.out.u ?_; intro W3 HN HO HB
         have OS3 := Lib.hid (OS2.out.setU HN.out HO.out HB.out)
         clear HN HO HB)
      | ((with_reducible show wpList _ _ _ (⟨some 93, .load 26 (.tmp 15), _, _, _, _⟩ :: _) _ _); refine wpList_load_u (by rfl) 26 _ rfl (W1.heap.size) (by exact rfl) _ Try.underlying26 (by kernel_rfl) 26 VR.out ?_)
      | ((with_reducible show wpList _ _ _ (⟨none, .store 26 (.tmp 15) (.tmp 46), _, _, _, _⟩ :: _) _ _); refine wpList_store_u rfl 26 _ _ rfl (W1.heap.size) (by exact rfl) (by exact rfl) (pad_length _) (pad_length _) (by kernel_rfl) 26 (show URow _ _ _ 0 Z8 0 Z8 false 0 0 from ⟨alloc_at _ _, rfl, rfl⟩) ?_; intro W2 HN HO HB
         have OS2 := Lib.hid (OS1.out.under (((Below.refl _ _).alloc (Nat.le_refl _) _).trans HB.out))
         have VR : Hid (URow W2 W1.heap.size 26 ((I).length : Nat) (pad (I)) (((x :: r)).length : Nat) (pad ((x :: r))) l c (tk + 1)) := HN
         have NA := Lib.hid (fun j hj => Nat.ne_of_lt (OS1.out.a.blk j hj).2)
         have NB := Lib.hid (fun j hj => Nat.ne_of_lt (OS1.out.b.blk j hj).2)
         clear HN HO HB)
      | (go_at_call 15; refine (KT.out _).mono ?_; rintro e W1 ⟨rfl, hB⟩
         have OS1 := Lib.hid (OS.out.under hB)
         clear hB)
      | ((with_reducible show wpList _ _ _ (⟨some 44, .load 26 (.tmp 3), _, _, _, _⟩ :: _) _ _); refine wpList_load_u (by rfl) 26 _ rfl gu (by exact rfl) _ Try.underlying26 (by kernel_rfl) 26 OS.out.u ?_))
              go_meet
              case rel => exact ⟨_, I, (x :: r), (tk + 1), c, l, rfl, rfl, rfl, rfl, RG2.out, OS3.out⟩
      case rest =>
        obtain ⟨W, I, O, tk, c, l, rfl, rfl, rfl, rfl, hrg, hos⟩ := hcut
        obtain ⟨Ai2, ci2, hvi⟩ := hos.formI
        obtain ⟨Ao2, co2, hvo⟩ := hos.formO
        subst hvi
        subst hvo
        have KP4 := Lib.hid (fun X => rt_peek4 (l := l) H X hrg)
        have KP5 := Lib.hid (fun X => rt_peek5 (l := l) H X hrg)
        have KM := Lib.hid (fun X => rt_mend (l := l) H X hrg)
        have RG3 := Lib.hid hrg
        have OS3 := Lib.hid hos
        have hc8 := hrg.c8
        have hk4 := hrg.k4
        have hp1 := pad_length I
        have hp2 := pad_length O
        have HWc : Hid (IntKind.i32.wrap (c : Int) = (c : Int)) := Lib.hid (by
          simp [IntKind.wrap, IntKind.bits, IntKind.signed]
          omega)
        have HWk : Hid (IntKind.i64.wrap (tk : Int) = (tk : Int)) := Lib.hid (by
          simp [IntKind.wrap, IntKind.bits, IntKind.signed]
          omega)
        have HR : Hid ((0 < (I.length : Int) ∧ I ≠ []) ∨ ((I.length : Int) = 0 ∧ I = [])) := Lib.hid (by
          cases I with
          | nil => exact .inr ⟨rfl, rfl⟩
          | cons y I => exact .inl ⟨by simp, by simp⟩)
        have HT : Hid (((O.length : Int) = 8 ∧ O.length = 8) ∨ (¬ (O.length : Int) = 8 ∧ O.length ≠ 8)) := Lib.hid (by omega)
        clear hrg hos RG OS C8
        go_upto_if 186 with fail
        go_cut [19] (fun v wx => ∃ s : Int, W = wx ∧ v = .int .i32 s ∧ s = (if I = [] then 0 else 1))
        case first =>
          rcases HR.out with ⟨dr, er⟩ | ⟨dr, er⟩
          · have HE := Lib.hid er
            clear er
            as_aux_lemma =>
              go_wp2_with fail
              go_meet
              case rel => exact ⟨_, rfl, rfl, (if_neg HE.out).symm⟩
          · have dr3 : ¬ 0 < (I.length : Int) := by omega
            have HE := Lib.hid er
            clear dr er
            as_aux_lemma =>
              go_wp2_with fail
              go_meet
              case rel => exact ⟨_, rfl, rfl, (if_pos HE.out).symm⟩
        case rest =>
          obtain ⟨s1, rfl, rfl, hs1⟩ := hcut
          have b1 : 0 ≤ s1 ∧ s1 ≤ 1 := by rw [hs1]; split <;> decide
          obtain ⟨b1, b2⟩ := b1
          have HS1 := Lib.hid hs1
          clear hs1
          go_upto_if 191 with fail
          go_cut [19] (fun v wx => ∃ s : Int, W = wx ∧ v = .int .i32 s ∧ s = s1 + (if O.length = 8 then 2 else 0))
          case first =>
            rcases HT.out with ⟨dt, et⟩ | ⟨dt, et⟩
            · have dt2 : ((O.length : Int) == 8) = true := by simp; omega
              have HE := Lib.hid et
              clear dt et
              as_aux_lemma =>
                go_wp2_with fail
                go_meet
                case rel => exact ⟨_, rfl, rfl, by rw [if_pos HE.out]⟩
            · have dt2 : ((O.length : Int) == 8) = false := by simp; omega
              have HE := Lib.hid et
              clear dt et
              as_aux_lemma =>
                go_wp2_with fail
                go_meet
                case rel => exact ⟨_, rfl, rfl, by rw [if_neg HE.out, Int.add_zero]⟩
          case rest =>
            obtain ⟨s2, rfl, rfl, hs2⟩ := hcut
            have b3 : 0 ≤ s2 ∧ s2 ≤ 3 := by rw [hs2]; split <;> omega
            obtain ⟨b3, b4⟩ := b3
            have HS2 := Lib.hid hs2
            clear hs2 b1 b2
            go_upto_if 194 with fail
            go_cut [19] (fun v wx => ∃ s : Int, W = wx ∧ v = .int .i32 s ∧ s = s2 + (if l = true then 4 else 0))
            case first =>
              cases l
              · as_aux_lemma =>
                  go_wp2_with fail
                  go_meet
                  case rel => exact ⟨_, rfl, rfl, by simp⟩
              · as_aux_lemma =>
                  go_wp2_with fail
                  go_meet
                  case rel => exact ⟨_, rfl, rfl, by simp⟩
            case rest =>
              obtain ⟨s3, rfl, rfl, hs3⟩ := hcut
              have hst : statU I O l = s3 := by rw [hs3, HS2.out, HS1.out]; rfl
              rw [hst] at KP4
              clear hs3 b3 b4 HS1 HS2 HR HT hst
              as_aux_lemma =>
                go_upto_region 57 with fail
                refine wp_region_noPanic ?_
                refine wp_region_held_drew (S := fun X => Below W.heap.size W X) (by kernel_rfl) ((Below.refl _ W).drew) (fun hHeld => ?_)
                refine' take_ 0 rfl (by kernel_rfl) (by kernel_rfl) (by kernel_rfl) (fun _ _ _ h => h) (by rfl) (fun wS hSw => run_load_u wS 26 _ gu rfl _ Try.underlying26 (by kernel_rfl) 26 (OS3.out.u.below hSw OS3.out.u.lt) _ _ _ _ _) hHeld ?_
                try simp only [Act.put, List.setIfInBounds_toArray, List.set_cons_zero, List.set_cons_succ]
                refine' take_ 2 rfl (by kernel_rfl) (by kernel_rfl) (by kernel_rfl) (fun _ _ _ h => h) (by rfl) (fun wS hSw => ?_) hHeld ?_
                rotate_left
                focus (go_simp; (try with_reducible rfl); done)
                try simp only [Act.put, List.setIfInBounds_toArray, List.set_cons_zero, List.set_cons_succ]
                refine only_ 1 rfl (by kernel_rfl) (by rfl) (fun K hK => ?_)
                go_simp
                (with_reducible refine (KP4.out _).mono ?_)
                rintro e wn ⟨rfl, hBn⟩
                go_simp
                refine hK.out _ _ (hHeld.trans (hBn.mono hHeld.size)) (fun hHeld2 => ?_)
                clear hK K hHeld
                have hHeld := hHeld2
                clear hHeld2
                try simp only [Act.put, List.setIfInBounds_toArray, List.set_cons_zero, List.set_cons_succ]
                clear hBn
                refine' take_ 3 rfl (by kernel_rfl) (by kernel_rfl) (by kernel_rfl) (fun _ _ _ h => h) (by rfl) (fun wS hSw => ?_) hHeld ?_
                rotate_left
                focus (go_simp; (try with_reducible rfl); done)
                try simp only [Act.put, List.setIfInBounds_toArray, List.set_cons_zero, List.set_cons_succ]
                refine' take_ 4 rfl (by kernel_rfl) (by kernel_rfl) (by kernel_rfl) (fun _ _ _ h => h) (by rfl) (fun wS hSw => ?_) hHeld ?_
                rotate_left
                focus (go_simp; (try with_reducible rfl); done)
                try simp only [Act.put, List.setIfInBounds_toArray, List.set_cons_zero, List.set_cons_succ]
                refine' take_ 5 rfl (by kernel_rfl) (by kernel_rfl) (by kernel_rfl) (fun _ _ _ h => h) (by rfl) (fun wS hSw => run_load_u wS 26 _ gu rfl _ Try.underlying26 (by kernel_rfl) 26 (OS3.out.u.below hSw OS3.out.u.lt) _ _ _ _ _) hHeld ?_
                try simp only [Act.put, List.setIfInBounds_toArray, List.set_cons_zero, List.set_cons_succ]
                refine' take_ 7 rfl (by kernel_rfl) (by kernel_rfl) (by kernel_rfl) (fun _ _ _ h => h) (by rfl) (fun wS hSw => ?_) hHeld ?_
                rotate_left
                focus (go_simp; (try with_reducible rfl); done)
                try simp only [Act.put, List.setIfInBounds_toArray, List.set_cons_zero, List.set_cons_succ]
                refine' take_ 8 rfl (by kernel_rfl) (by kernel_rfl) (by kernel_rfl) (fun _ _ _ h => h) (by rfl) (fun wS hSw => ?_) hHeld ?_
                rotate_left
                focus (go_simp; (try rw [HWc.out]); (try with_reducible rfl); done)
                try simp only [Act.put, List.setIfInBounds_toArray, List.set_cons_zero, List.set_cons_succ]
                refine only_ 6 rfl (by kernel_rfl) (by rfl) (fun K hK => ?_)
                go_simp
                (with_reducible refine (KP5.out _).mono ?_)
                rintro e wn ⟨rfl, hBn⟩
                go_simp
                refine hK.out _ _ (hHeld.trans (hBn.mono hHeld.size)) (fun hHeld2 => ?_)
                clear hK K hHeld
                have hHeld := hHeld2
                clear hHeld2
                try simp only [Act.put, List.setIfInBounds_toArray, List.set_cons_zero, List.set_cons_succ]
                clear hBn
                refine' take_ 9 rfl (by kernel_rfl) (by kernel_rfl) (by kernel_rfl) (fun _ _ _ h => h) (by rfl) (fun wS hSw => ?_) hHeld ?_
                rotate_left
                focus (go_simp; (try with_reducible rfl); done)
                try simp only [Act.put, List.setIfInBounds_toArray, List.set_cons_zero, List.set_cons_succ]
                refine' take_ 10 rfl (by kernel_rfl) (by kernel_rfl) (by kernel_rfl) (fun _ _ _ h => h) (by rfl) (fun wS hSw => ?_) hHeld ?_
                rotate_left
                focus (go_simp; (try with_reducible rfl); done)
                try simp only [Act.put, List.setIfInBounds_toArray, List.set_cons_zero, List.set_cons_succ]
                refine' take_ 11 rfl (by kernel_rfl) (by kernel_rfl) (by kernel_rfl) (fun _ _ _ h => h) (by rfl) (fun wS hSw => ?_) hHeld ?_
                rotate_left
                focus (go_simp; (try with_reducible rfl); done)
                try simp only [Act.put, List.setIfInBounds_toArray, List.set_cons_zero, List.set_cons_succ]
                refine' take_ 12 rfl (by kernel_rfl) (by kernel_rfl) (by kernel_rfl) (fun _ _ _ h => h) (by rfl) (fun wS hSw => run_load_u wS 26 _ gu rfl _ Try.underlying26 (by kernel_rfl) 26 (OS3.out.u.below hSw OS3.out.u.lt) _ _ _ _ _) hHeld ?_
                try simp only [Act.put, List.setIfInBounds_toArray, List.set_cons_zero, List.set_cons_succ]
                refine' take_ 14 rfl (by kernel_rfl) (by kernel_rfl) (by kernel_rfl) (fun _ _ _ h => h) (by rfl) (fun wS hSw => run_load_u wS 26 _ gu rfl _ Try.underlying26 (by kernel_rfl) 26 (OS3.out.u.below hSw OS3.out.u.lt) _ _ _ _ _) hHeld ?_
                try simp only [Act.put, List.setIfInBounds_toArray, List.set_cons_zero, List.set_cons_succ]
                refine only_ 13 rfl (by kernel_rfl) (by rfl) (fun K hK => ?_)
                go_simp
                (with_reducible refine (KM.out _).mono ?_)
                rintro e wn ⟨rfl, hBn⟩
                go_simp
                refine hK.out _ _ (hHeld.trans (hBn.mono hHeld.size)) (fun hHeld2 => ?_)
                clear hK K hHeld
                have hHeld := hHeld2
                clear hHeld2
                try simp only [Act.put, List.setIfInBounds_toArray, List.set_cons_zero, List.set_cons_succ]
                clear hBn
                refine' take_ 15 rfl (by kernel_rfl) (by kernel_rfl) (by kernel_rfl) (fun _ _ _ h => h) (by rfl) (fun wS hSw => ?_) hHeld ?_
                rotate_left
                focus ((go_simp; rw [guard_u]; go_simp; rw [run_neq_u _ _ _ _ _ _ _ _ (by assumption) (by assumption)]; (try go_simp); (try with_reducible rfl); done))
                try simp only [Act.put, List.setIfInBounds_toArray, List.set_cons_zero, List.set_cons_succ]
                refine' take_ 16 rfl (by kernel_rfl) (by kernel_rfl) (by kernel_rfl) (fun _ _ _ h => h) (by rfl) (fun wS hSw => ?_) hHeld ?_
                rotate_left
                focus (go_simp; (try with_reducible rfl); done)
                try simp only [Act.put, List.setIfInBounds_toArray, List.set_cons_zero, List.set_cons_succ]
                refine' take_ 17 rfl (by kernel_rfl) (by kernel_rfl) (by kernel_rfl) (fun _ _ _ h => h) (by rfl) (fun wS hSw => ?_) hHeld ?_
                rotate_left
                focus (go_simp; (try with_reducible rfl); done)
                try simp only [Act.put, List.setIfInBounds_toArray, List.set_cons_zero, List.set_cons_succ]
                refine' take_ 18 rfl (by kernel_rfl) (by kernel_rfl) (by kernel_rfl) (fun _ _ _ h => h) (by rfl) (fun wS hSw => ?_) hHeld ?_
                rotate_left
                focus (go_simp; (try with_reducible rfl); done)
                try simp only [Act.put, List.setIfInBounds_toArray, List.set_cons_zero, List.set_cons_succ]
                refine' take_ 19 rfl (by kernel_rfl) (by kernel_rfl) (by kernel_rfl) (fun _ _ _ h => h) (by rfl) (fun wS hSw => ?_) hHeld ?_
                rotate_left
                focus (have s0 := (OS3.out.u.below hSw OS3.out.u.lt).c20; clear hSw; go_simp; (try with_reducible rfl); done)
                try simp only [Act.put, List.setIfInBounds_toArray, List.set_cons_zero, List.set_cons_succ]
                refine' take_ 20 rfl (by kernel_rfl) (by kernel_rfl) (by kernel_rfl) (fun _ _ _ h => h) (by rfl) (fun wS hSw => ?_) hHeld ?_
                rotate_left
                focus (go_simp; (try rw [HWk.out]); (try with_reducible rfl); done)
                try simp only [Act.put, List.setIfInBounds_toArray, List.set_cons_zero, List.set_cons_succ]
                refine' take_ 21 rfl (by kernel_rfl) (by kernel_rfl) (by kernel_rfl) (fun _ _ _ h => h) (by rfl) (fun wS hSw => ?_) hHeld ?_
                rotate_left
                focus (go_simp; (try with_reducible rfl); done)
                try simp only [Act.put, List.setIfInBounds_toArray, List.set_cons_zero, List.set_cons_succ]
                refine' take_ 22 rfl (by kernel_rfl) (by kernel_rfl) (by kernel_rfl) (fun _ _ _ h => h) (by rfl) (fun wS hSw => ?_) hHeld ?_
                rotate_left
                focus (go_simp; (try with_reducible rfl); done)
                try simp only [Act.put, List.setIfInBounds_toArray, List.set_cons_zero, List.set_cons_succ]
                refine' take_ 23 rfl (by kernel_rfl) (by kernel_rfl) (by kernel_rfl) (fun _ _ _ h => h) (by rfl) (fun wS hSw => ?_) hHeld ?_
                rotate_left
                focus (go_simp; (try with_reducible rfl); done)
                try simp only [Act.put, List.setIfInBounds_toArray, List.set_cons_zero, List.set_cons_succ]
                refine wpAnyH_done (by kernel_rfl) ?_ _
                refine NoPanic.normal ?_
                go_wp2_with fail
                go_roundw
                case rel => exact ⟨k + 1, I, O, tk, c, _, by omega, by omega, by go_num, rfl, rfl, rfl, RG3.out, OS3.out.under hHeld⟩
                case measure =>
                  simp [intOf]
                  omega
    · by_cases d : k < len
      · have d1 : (k : Int) < (len : Int) := by omega
        have d2 : ¬ (k : Int) < 200 := by omega
        clear hlt
        go_wp2_with fail
        go_ret
        exact ⟨rfl, OS.out.bw⟩
      · have d1 : ¬ (k : Int) < (len : Int) := by omega
        clear hlt
        go_wp2_with fail
        go_ret
        exact ⟨rfl, OS.out.bw⟩
end Go.Proofs.Ytgpgijdciaieaaa
