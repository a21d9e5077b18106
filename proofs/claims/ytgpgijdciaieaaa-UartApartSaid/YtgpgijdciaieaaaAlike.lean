/-
  alike: by its contract, if the program's functions are what they must be: of any value, register, number: true. Made by wip/genuartalike.py.
-/
import Derived.Test.YtgpgijdciaieaaaAs
namespace Go.Proofs.Ytgpgijdciaieaaa
open Go.RowKit
set_option linter.unusedVariables false
theorem uq_parts (R T : List Nat) (l : Bool) (c k : Nat) : ∃ N p M q, uq R T l c k = uv N p M q l c k ∧ p.length = 8 ∧ q.length = 8 := ⟨_, _, _, _, rfl, pad_length _, pad_length _⟩
set_option maxHeartbeats 4000000 in
set_option maxRecDepth 100000 in
theorem alike_any (H : UartOk) (n : Int) (bs : List Nat) (m : Int) (cs : List Nat) (l : Bool) (c k : Nat) (reg v : Int) (w : World) (h : UIn n bs m cs c k) (hg0 : -9223372036854775808 ≤ reg) (hg1 : reg ≤ 9223372036854775807) (hv0 : -2147483648 ≤ v) (hv1 : v ≤ 2147483647) :
    Calls Try.prog 7 #[uv n bs m cs l c k, .int .i64 reg, .int .i32 v] w fun e w' => e = .returned (.bool true) ∧ Below w.heap.size w w' := by
  have HA : Hid (∀ (n : Int) (bs : List Nat) (m : Int) (cs : List Nat) (l : Bool) (c k : Nat) (W : World), bs.length = 8 → cs.length = 8 → Calls Try.prog 17 #[uv n bs m cs l c k] W fun e w' => e = .returned (uv n bs m cs l c k) ∧ Below W.heap.size W w') := Lib.hid as_any
  have K1 := Lib.hid (fun W => H.read n bs m cs l c k reg W h hg0 hg1)
  have K2 := Lib.hid (fun W => rReadU_any n bs m cs l c k reg W h hg0 hg1)
  have K3 := Lib.hid (fun W => H.arrive n bs m cs l c k (lowN v) W h (lowN_lt v))
  have K4 := Lib.hid (fun W => rArriveU_any n bs m cs l c k (lowN v) W h (lowN_lt v))
  have K5 := Lib.hid (fun W => H.tick n bs m cs l c k W h)
  have K6 := Lib.hid (fun W => rTickU_any n bs m cs l c k W h)
  have K7 := Lib.hid (fun W => H.peek n bs m cs l c k reg W h hg0 hg1)
  have K8 := Lib.hid (fun W => rPeekU_any n bs m cs l c k reg W h hg0 hg1)
  have K9 := Lib.hid (fun W => H.write n bs m cs l c k reg v W h hg0 hg1 hv0 hv1)
  have K10 := Lib.hid (fun W => rWriteU_any n bs m cs l c k reg v W h hg0 hg1 hv0 hv1)
  have K11 := Lib.hid (fun W => H.mend n bs m cs l c k W h)
  have K12 := Lib.hid (fun W => rMendU_any n bs m cs l c k W h)
  have hb := h.hb
  have hc := h.hc
  generalize cutL n bs = R at *
  generalize cutL m cs = T at *
  generalize kM T k = k0 at *
  have HW : Hid (v % 256 = ((lowN v : Nat) : Int)) := Lib.hid (lowN_cast v).symm
  obtain ⟨n1, b1, m1, c1, e1, hb1, hc1⟩ := uq_parts (readR R reg) T (readL l reg) c k0
  rw [e1] at K1 K2
  obtain ⟨n2, b2, m2, c2, e2, hb2, hc2⟩ := uq_parts (addL R (lowN v)) T (arriveL R l) c k0
  rw [e2] at K3 K4
  obtain ⟨n3, b3, m3, c3, e3, hb3, hc3⟩ := uq_parts R (tickT T k0) l c (tickK T k0)
  rw [e3] at K5 K6
  obtain ⟨n4, b4, m4, c4, e4, hb4, hc4⟩ := uq_parts R (writeT T reg v) l (writeC c reg v) k0
  rw [e4] at K9 K10
  obtain ⟨n5, b5, m5, c5, e5, hb5, hc5⟩ := uq_parts R T l c k0
  rw [e5] at K11 K12
  generalize peekU R T l c reg = pv at *
  generalize readL l reg = l1 at *
  generalize arriveL R l = l2 at *
  generalize asksU R c = f2 at *
  generalize tickK T k0 = k3 at *
  generalize tickB T k0 = b9 at *
  generalize sendsU T k0 = s3 at *
  generalize tickQ T c k0 = q3 at *
  generalize writeC c reg v = d4 at *
  clear e1 e2 e3 e4 e5 h hg0 hg1 hv0 hv1
  generalize lowN v = lv at *
  unfold uv
  go_enter Try.func7, Try.ntmps7
  go_upto_region 1 with (fail)
  refine name_one (Q := fun X => Code.wp _ _ _ _ X) ?_
  intro w0 hq1 hB0 hZ0
  have RQ_w0 : Hid (URow w0 w.heap.size 26 n bs m cs l c k) := Lib.hid ⟨hq1, hb, hc⟩
  have BB_w0 : Hid (Below w.heap.size w w0) := Lib.hid hB0
  clear hq1 hB0 hZ0
  go_upto_region 8 with (first
      | ((with_reducible show wpList _ _ _ (⟨none, .store 46 (.tmp 20) (.tmp 62), _, _, _, _⟩ :: _) _ _); refine wpList_store_u rfl 46 _ _ rfl (wd.heap.size) (by exact rfl) (by exact rfl) (by first | assumption | exact rfl) (by first | assumption | exact rfl) (by kernel_rfl) 46 (show URow _ _ _ 0 Z8 0 Z8 false 0 0 from ⟨alloc_at _ _, rfl, rfl⟩) ?_; intro wz HN HO HB
         have RQ_wz : Hid (URow wz (w.heap.size) 26 n bs m cs l c k) := Lib.hid (URow.other (URow.below RQ_wd.out ((Below.refl _ _).alloc (Nat.le_refl _) _) RQ_wd.out.lt) HO.out (Nat.ne_of_lt RQ_wd.out.lt))
         have RR_wz : Hid (URow wz (w1.heap.size) 46 n bs m cs l c k) := Lib.hid (URow.other (URow.below RR_wd.out ((Below.refl _ _).alloc (Nat.le_refl _) _) RR_wd.out.lt) HO.out (Nat.ne_of_lt RR_wd.out.lt))
         have RB_wz : Hid (URow wz (w3.heap.size) 26 n1 b1 m1 c1 l1 c k0) := Lib.hid (URow.other (URow.below RB_wd.out ((Below.refl _ _).alloc (Nat.le_refl _) _) RB_wd.out.lt) HO.out (Nat.ne_of_lt RB_wd.out.lt))
         have RD_wz : Hid (URow wz (w5.heap.size) 46 n1 b1 m1 c1 l1 c k0) := Lib.hid (URow.other (URow.below RD_wd.out ((Below.refl _ _).alloc (Nat.le_refl _) _) RD_wd.out.lt) HO.out (Nat.ne_of_lt RD_wd.out.lt))
         have RE_wz : Hid (URow wz (w7.heap.size) 26 n2 b2 m2 c2 l2 c k0) := Lib.hid (URow.other (URow.below RE_wd.out ((Below.refl _ _).alloc (Nat.le_refl _) _) RE_wd.out.lt) HO.out (Nat.ne_of_lt RE_wd.out.lt))
         have RG_wz : Hid (URow wz (w9.heap.size) 46 n2 b2 m2 c2 l2 c k0) := Lib.hid (URow.other (URow.below RG_wd.out ((Below.refl _ _).alloc (Nat.le_refl _) _) RG_wd.out.lt) HO.out (Nat.ne_of_lt RG_wd.out.lt))
         have RI_wz : Hid (URow wz (wb.heap.size) 26 n3 b3 m3 c3 l c k3) := Lib.hid (URow.other (URow.below RI_wd.out ((Below.refl _ _).alloc (Nat.le_refl _) _) RI_wd.out.lt) HO.out (Nat.ne_of_lt RI_wd.out.lt))
         have RN_wz : Hid (URow wz wd.heap.size 46 n3 b3 m3 c3 l c k3) := HN
         have BB_wz : Hid (Below w.heap.size w wz) := Lib.hid ((BB_wd.out.alloc BB_wd.out.size _).trans (HB.out.mono BB_wd.out.size))
         clear HO HB HN RQ_wd RR_wd RB_wd RD_wd RE_wd RG_wd RI_wd BB_wd)
      | (go_at_call 20; have hc := BB_wc; clear hc; refine (K6.out _).mono ?_; rintro e wd ⟨rfl, hB⟩
         have RQ_wd : Hid (URow wd (w.heap.size) 26 n bs m cs l c k) := Lib.hid (URow.below RQ_wc.out hB RQ_wc.out.lt)
         have RR_wd : Hid (URow wd (w1.heap.size) 46 n bs m cs l c k) := Lib.hid (URow.below RR_wc.out hB RR_wc.out.lt)
         have RB_wd : Hid (URow wd (w3.heap.size) 26 n1 b1 m1 c1 l1 c k0) := Lib.hid (URow.below RB_wc.out hB RB_wc.out.lt)
         have RD_wd : Hid (URow wd (w5.heap.size) 46 n1 b1 m1 c1 l1 c k0) := Lib.hid (URow.below RD_wc.out hB RD_wc.out.lt)
         have RE_wd : Hid (URow wd (w7.heap.size) 26 n2 b2 m2 c2 l2 c k0) := Lib.hid (URow.below RE_wc.out hB RE_wc.out.lt)
         have RG_wd : Hid (URow wd (w9.heap.size) 46 n2 b2 m2 c2 l2 c k0) := Lib.hid (URow.below RG_wc.out hB RG_wc.out.lt)
         have RI_wd : Hid (URow wd (wb.heap.size) 26 n3 b3 m3 c3 l c k3) := Lib.hid (URow.below RI_wc.out hB RI_wc.out.lt)
         have BB_wd : Hid (Below w.heap.size w wd) := Lib.hid (BB_wc.out.trans (hB.mono BB_wc.out.size))
         clear hB RQ_wc RR_wc RB_wc RD_wc RE_wc RG_wc RI_wc BB_wc)
      | ((with_reducible show wpList _ _ _ (⟨some 60, .load 46 (.tmp 7), _, _, _, _⟩ :: _) _ _); refine wpList_load_u (by rfl) 46 _ rfl (w1.heap.size) (by exact rfl) _ Try.underlying46 (by kernel_rfl) 46 (RR_wc.out) ?_)
      | ((with_reducible show wpList _ _ _ (⟨none, .store 26 (.tmp 16) (.tmp 55), _, _, _, _⟩ :: _) _ _); refine wpList_store_u rfl 26 _ _ rfl (wb.heap.size) (by exact rfl) (by exact rfl) (by first | assumption | exact rfl) (by first | assumption | exact rfl) (by kernel_rfl) 26 (show URow _ _ _ 0 Z8 0 Z8 false 0 0 from ⟨alloc_at _ _, rfl, rfl⟩) ?_; intro wc HN HO HB
         have RQ_wc : Hid (URow wc (w.heap.size) 26 n bs m cs l c k) := Lib.hid (URow.other (URow.below RQ_wb.out ((Below.refl _ _).alloc (Nat.le_refl _) _) RQ_wb.out.lt) HO.out (Nat.ne_of_lt RQ_wb.out.lt))
         have RR_wc : Hid (URow wc (w1.heap.size) 46 n bs m cs l c k) := Lib.hid (URow.other (URow.below RR_wb.out ((Below.refl _ _).alloc (Nat.le_refl _) _) RR_wb.out.lt) HO.out (Nat.ne_of_lt RR_wb.out.lt))
         have RB_wc : Hid (URow wc (w3.heap.size) 26 n1 b1 m1 c1 l1 c k0) := Lib.hid (URow.other (URow.below RB_wb.out ((Below.refl _ _).alloc (Nat.le_refl _) _) RB_wb.out.lt) HO.out (Nat.ne_of_lt RB_wb.out.lt))
         have RD_wc : Hid (URow wc (w5.heap.size) 46 n1 b1 m1 c1 l1 c k0) := Lib.hid (URow.other (URow.below RD_wb.out ((Below.refl _ _).alloc (Nat.le_refl _) _) RD_wb.out.lt) HO.out (Nat.ne_of_lt RD_wb.out.lt))
         have RE_wc : Hid (URow wc (w7.heap.size) 26 n2 b2 m2 c2 l2 c k0) := Lib.hid (URow.other (URow.below RE_wb.out ((Below.refl _ _).alloc (Nat.le_refl _) _) RE_wb.out.lt) HO.out (Nat.ne_of_lt RE_wb.out.lt))
         have RG_wc : Hid (URow wc (w9.heap.size) 46 n2 b2 m2 c2 l2 c k0) := Lib.hid (URow.other (URow.below RG_wb.out ((Below.refl _ _).alloc (Nat.le_refl _) _) RG_wb.out.lt) HO.out (Nat.ne_of_lt RG_wb.out.lt))
         have RI_wc : Hid (URow wc wb.heap.size 26 n3 b3 m3 c3 l c k3) := HN
         have BB_wc : Hid (Below w.heap.size w wc) := Lib.hid ((BB_wb.out.alloc BB_wb.out.size _).trans (HB.out.mono BB_wb.out.size))
         clear HO HB HN RQ_wb RR_wb RB_wb RD_wb RE_wb RG_wb BB_wb)
      | (go_at_call 15; have hc := BB_wa; clear hc; refine (K5.out _).mono ?_; rintro e wb ⟨rfl, hB⟩
         have RQ_wb : Hid (URow wb (w.heap.size) 26 n bs m cs l c k) := Lib.hid (URow.below RQ_wa.out hB RQ_wa.out.lt)
         have RR_wb : Hid (URow wb (w1.heap.size) 46 n bs m cs l c k) := Lib.hid (URow.below RR_wa.out hB RR_wa.out.lt)
         have RB_wb : Hid (URow wb (w3.heap.size) 26 n1 b1 m1 c1 l1 c k0) := Lib.hid (URow.below RB_wa.out hB RB_wa.out.lt)
         have RD_wb : Hid (URow wb (w5.heap.size) 46 n1 b1 m1 c1 l1 c k0) := Lib.hid (URow.below RD_wa.out hB RD_wa.out.lt)
         have RE_wb : Hid (URow wb (w7.heap.size) 26 n2 b2 m2 c2 l2 c k0) := Lib.hid (URow.below RE_wa.out hB RE_wa.out.lt)
         have RG_wb : Hid (URow wb (w9.heap.size) 46 n2 b2 m2 c2 l2 c k0) := Lib.hid (URow.below RG_wa.out hB RG_wa.out.lt)
         have BB_wb : Hid (Below w.heap.size w wb) := Lib.hid (BB_wa.out.trans (hB.mono BB_wa.out.size))
         clear hB RQ_wa RR_wa RB_wa RD_wa RE_wa RG_wa BB_wa)
      | ((with_reducible show wpList _ _ _ (⟨some 53, .load 26 (.tmp 3), _, _, _, _⟩ :: _) _ _); refine wpList_load_u (by rfl) 26 _ rfl (w.heap.size) (by exact rfl) _ Try.underlying26 (by kernel_rfl) 26 (RQ_wa.out) ?_)
      | ((with_reducible show wpList _ _ _ (⟨none, .store 46 (.tmp 14) (.tmp 50), _, _, _, _⟩ :: _) _ _); refine wpList_store_u rfl 46 _ _ rfl (w9.heap.size) (by exact rfl) (by exact rfl) (by first | assumption | exact rfl) (by first | assumption | exact rfl) (by kernel_rfl) 46 (show URow _ _ _ 0 Z8 0 Z8 false 0 0 from ⟨alloc_at _ _, rfl, rfl⟩) ?_; intro wa HN HO HB
         have RQ_wa : Hid (URow wa (w.heap.size) 26 n bs m cs l c k) := Lib.hid (URow.other (URow.below RQ_w9.out ((Below.refl _ _).alloc (Nat.le_refl _) _) RQ_w9.out.lt) HO.out (Nat.ne_of_lt RQ_w9.out.lt))
         have RR_wa : Hid (URow wa (w1.heap.size) 46 n bs m cs l c k) := Lib.hid (URow.other (URow.below RR_w9.out ((Below.refl _ _).alloc (Nat.le_refl _) _) RR_w9.out.lt) HO.out (Nat.ne_of_lt RR_w9.out.lt))
         have RB_wa : Hid (URow wa (w3.heap.size) 26 n1 b1 m1 c1 l1 c k0) := Lib.hid (URow.other (URow.below RB_w9.out ((Below.refl _ _).alloc (Nat.le_refl _) _) RB_w9.out.lt) HO.out (Nat.ne_of_lt RB_w9.out.lt))
         have RD_wa : Hid (URow wa (w5.heap.size) 46 n1 b1 m1 c1 l1 c k0) := Lib.hid (URow.other (URow.below RD_w9.out ((Below.refl _ _).alloc (Nat.le_refl _) _) RD_w9.out.lt) HO.out (Nat.ne_of_lt RD_w9.out.lt))
         have RE_wa : Hid (URow wa (w7.heap.size) 26 n2 b2 m2 c2 l2 c k0) := Lib.hid (URow.other (URow.below RE_w9.out ((Below.refl _ _).alloc (Nat.le_refl _) _) RE_w9.out.lt) HO.out (Nat.ne_of_lt RE_w9.out.lt))
         have RG_wa : Hid (URow wa w9.heap.size 46 n2 b2 m2 c2 l2 c k0) := HN
         have BB_wa : Hid (Below w.heap.size w wa) := Lib.hid ((BB_w9.out.alloc BB_w9.out.size _).trans (HB.out.mono BB_w9.out.size))
         clear HO HB HN RQ_w9 RR_w9 RB_w9 RD_w9 RE_w9 BB_w9)
      | (go_at_call 19; have hc := BB_w8; clear hc; (try rw [HW.out]); refine (K4.out _).mono ?_; rintro e w9 ⟨rfl, hB⟩
         have RQ_w9 : Hid (URow w9 (w.heap.size) 26 n bs m cs l c k) := Lib.hid (URow.below RQ_w8.out hB RQ_w8.out.lt)
         have RR_w9 : Hid (URow w9 (w1.heap.size) 46 n bs m cs l c k) := Lib.hid (URow.below RR_w8.out hB RR_w8.out.lt)
         have RB_w9 : Hid (URow w9 (w3.heap.size) 26 n1 b1 m1 c1 l1 c k0) := Lib.hid (URow.below RB_w8.out hB RB_w8.out.lt)
         have RD_w9 : Hid (URow w9 (w5.heap.size) 46 n1 b1 m1 c1 l1 c k0) := Lib.hid (URow.below RD_w8.out hB RD_w8.out.lt)
         have RE_w9 : Hid (URow w9 (w7.heap.size) 26 n2 b2 m2 c2 l2 c k0) := Lib.hid (URow.below RE_w8.out hB RE_w8.out.lt)
         have BB_w9 : Hid (Below w.heap.size w w9) := Lib.hid (BB_w8.out.trans (hB.mono BB_w8.out.size))
         clear hB RQ_w8 RR_w8 RB_w8 RD_w8 RE_w8 BB_w8)
      | ((with_reducible show wpList _ _ _ (⟨some 46, .load 46 (.tmp 7), _, _, _, _⟩ :: _) _ _); refine wpList_load_u (by rfl) 46 _ rfl (w1.heap.size) (by exact rfl) _ Try.underlying46 (by kernel_rfl) 46 (RR_w8.out) ?_)
      | ((with_reducible show wpList _ _ _ (⟨none, .store 26 (.tmp 12) (.tmp 43), _, _, _, _⟩ :: _) _ _); refine wpList_store_u rfl 26 _ _ rfl (w7.heap.size) (by exact rfl) (by exact rfl) (by first | assumption | exact rfl) (by first | assumption | exact rfl) (by kernel_rfl) 26 (show URow _ _ _ 0 Z8 0 Z8 false 0 0 from ⟨alloc_at _ _, rfl, rfl⟩) ?_; intro w8 HN HO HB
         have RQ_w8 : Hid (URow w8 (w.heap.size) 26 n bs m cs l c k) := Lib.hid (URow.other (URow.below RQ_w7.out ((Below.refl _ _).alloc (Nat.le_refl _) _) RQ_w7.out.lt) HO.out (Nat.ne_of_lt RQ_w7.out.lt))
         have RR_w8 : Hid (URow w8 (w1.heap.size) 46 n bs m cs l c k) := Lib.hid (URow.other (URow.below RR_w7.out ((Below.refl _ _).alloc (Nat.le_refl _) _) RR_w7.out.lt) HO.out (Nat.ne_of_lt RR_w7.out.lt))
         have RB_w8 : Hid (URow w8 (w3.heap.size) 26 n1 b1 m1 c1 l1 c k0) := Lib.hid (URow.other (URow.below RB_w7.out ((Below.refl _ _).alloc (Nat.le_refl _) _) RB_w7.out.lt) HO.out (Nat.ne_of_lt RB_w7.out.lt))
         have RD_w8 : Hid (URow w8 (w5.heap.size) 46 n1 b1 m1 c1 l1 c k0) := Lib.hid (URow.other (URow.below RD_w7.out ((Below.refl _ _).alloc (Nat.le_refl _) _) RD_w7.out.lt) HO.out (Nat.ne_of_lt RD_w7.out.lt))
         have RE_w8 : Hid (URow w8 w7.heap.size 26 n2 b2 m2 c2 l2 c k0) := HN
         have BB_w8 : Hid (Below w.heap.size w w8) := Lib.hid ((BB_w7.out.alloc BB_w7.out.size _).trans (HB.out.mono BB_w7.out.size))
         clear HO HB HN RQ_w7 RR_w7 RB_w7 RD_w7 BB_w7)
      | (go_at_call 12; have hc := BB_w6; clear hc; rw [HW.out]; refine (K3.out _).mono ?_; rintro e w7 ⟨rfl, hB⟩
         have RQ_w7 : Hid (URow w7 (w.heap.size) 26 n bs m cs l c k) := Lib.hid (URow.below RQ_w6.out hB RQ_w6.out.lt)
         have RR_w7 : Hid (URow w7 (w1.heap.size) 46 n bs m cs l c k) := Lib.hid (URow.below RR_w6.out hB RR_w6.out.lt)
         have RB_w7 : Hid (URow w7 (w3.heap.size) 26 n1 b1 m1 c1 l1 c k0) := Lib.hid (URow.below RB_w6.out hB RB_w6.out.lt)
         have RD_w7 : Hid (URow w7 (w5.heap.size) 46 n1 b1 m1 c1 l1 c k0) := Lib.hid (URow.below RD_w6.out hB RD_w6.out.lt)
         have BB_w7 : Hid (Below w.heap.size w w7) := Lib.hid (BB_w6.out.trans (hB.mono BB_w6.out.size))
         clear hB RQ_w6 RR_w6 RB_w6 RD_w6 BB_w6)
      | ((with_reducible show wpList _ _ _ (⟨some 39, .load 26 (.tmp 3), _, _, _, _⟩ :: _) _ _); refine wpList_load_u (by rfl) 26 _ rfl (w.heap.size) (by exact rfl) _ Try.underlying26 (by kernel_rfl) 26 (RQ_w6.out) ?_)
      | ((with_reducible show wpList _ _ _ (⟨none, .store 46 (.tmp 11) (.tmp 37), _, _, _, _⟩ :: _) _ _); refine wpList_store_u rfl 46 _ _ rfl (w5.heap.size) (by exact rfl) (by exact rfl) (by first | assumption | exact rfl) (by first | assumption | exact rfl) (by kernel_rfl) 46 (show URow _ _ _ 0 Z8 0 Z8 false 0 0 from ⟨alloc_at _ _, rfl, rfl⟩) ?_; intro w6 HN HO HB
         have RQ_w6 : Hid (URow w6 (w.heap.size) 26 n bs m cs l c k) := Lib.hid (URow.other (URow.below RQ_w5.out ((Below.refl _ _).alloc (Nat.le_refl _) _) RQ_w5.out.lt) HO.out (Nat.ne_of_lt RQ_w5.out.lt))
         have RR_w6 : Hid (URow w6 (w1.heap.size) 46 n bs m cs l c k) := Lib.hid (URow.other (URow.below RR_w5.out ((Below.refl _ _).alloc (Nat.le_refl _) _) RR_w5.out.lt) HO.out (Nat.ne_of_lt RR_w5.out.lt))
         have RB_w6 : Hid (URow w6 (w3.heap.size) 26 n1 b1 m1 c1 l1 c k0) := Lib.hid (URow.other (URow.below RB_w5.out ((Below.refl _ _).alloc (Nat.le_refl _) _) RB_w5.out.lt) HO.out (Nat.ne_of_lt RB_w5.out.lt))
         have RD_w6 : Hid (URow w6 w5.heap.size 46 n1 b1 m1 c1 l1 c k0) := HN
         have BB_w6 : Hid (Below w.heap.size w w6) := Lib.hid ((BB_w5.out.alloc BB_w5.out.size _).trans (HB.out.mono BB_w5.out.size))
         clear HO HB HN RQ_w5 RR_w5 RB_w5 BB_w5)
      | (go_at_call 18; have hc := BB_w4; clear hc; refine (K2.out _).mono ?_; rintro e w5 ⟨rfl, hB⟩
         have RQ_w5 : Hid (URow w5 (w.heap.size) 26 n bs m cs l c k) := Lib.hid (URow.below RQ_w4.out hB RQ_w4.out.lt)
         have RR_w5 : Hid (URow w5 (w1.heap.size) 46 n bs m cs l c k) := Lib.hid (URow.below RR_w4.out hB RR_w4.out.lt)
         have RB_w5 : Hid (URow w5 (w3.heap.size) 26 n1 b1 m1 c1 l1 c k0) := Lib.hid (URow.below RB_w4.out hB RB_w4.out.lt)
         have BB_w5 : Hid (Below w.heap.size w w5) := Lib.hid (BB_w4.out.trans (hB.mono BB_w4.out.size))
         clear hB RQ_w4 RR_w4 RB_w4 BB_w4)
      | ((with_reducible show wpList _ _ _ (⟨some 33, .load 46 (.tmp 7), _, _, _, _⟩ :: _) _ _); refine wpList_load_u (by rfl) 46 _ rfl (w1.heap.size) (by exact rfl) _ Try.underlying46 (by kernel_rfl) 46 (RR_w4.out) ?_)
      | ((with_reducible show wpList _ _ _ (⟨none, .store 26 (.tmp 9) (.tmp 31), _, _, _, _⟩ :: _) _ _); refine wpList_store_u rfl 26 _ _ rfl (w3.heap.size) (by exact rfl) (by exact rfl) (by first | assumption | exact rfl) (by first | assumption | exact rfl) (by kernel_rfl) 26 (show URow _ _ _ 0 Z8 0 Z8 false 0 0 from ⟨alloc_at _ _, rfl, rfl⟩) ?_; intro w4 HN HO HB
         have RQ_w4 : Hid (URow w4 (w.heap.size) 26 n bs m cs l c k) := Lib.hid (URow.other (URow.below RQ_w3.out ((Below.refl _ _).alloc (Nat.le_refl _) _) RQ_w3.out.lt) HO.out (Nat.ne_of_lt RQ_w3.out.lt))
         have RR_w4 : Hid (URow w4 (w1.heap.size) 46 n bs m cs l c k) := Lib.hid (URow.other (URow.below RR_w3.out ((Below.refl _ _).alloc (Nat.le_refl _) _) RR_w3.out.lt) HO.out (Nat.ne_of_lt RR_w3.out.lt))
         have RB_w4 : Hid (URow w4 w3.heap.size 26 n1 b1 m1 c1 l1 c k0) := HN
         have BB_w4 : Hid (Below w.heap.size w w4) := Lib.hid ((BB_w3.out.alloc BB_w3.out.size _).trans (HB.out.mono BB_w3.out.size))
         clear HO HB HN RQ_w3 RR_w3 BB_w3)
      | (go_at_call 13; have hc := BB_w2; clear hc; refine (K1.out _).mono ?_; rintro e w3 ⟨rfl, hB⟩
         have RQ_w3 : Hid (URow w3 (w.heap.size) 26 n bs m cs l c k) := Lib.hid (URow.below RQ_w2.out hB RQ_w2.out.lt)
         have RR_w3 : Hid (URow w3 (w1.heap.size) 46 n bs m cs l c k) := Lib.hid (URow.below RR_w2.out hB RR_w2.out.lt)
         have BB_w3 : Hid (Below w.heap.size w w3) := Lib.hid (BB_w2.out.trans (hB.mono BB_w2.out.size))
         clear hB RQ_w2 RR_w2 BB_w2)
      | ((with_reducible show wpList _ _ _ (⟨some 27, .load 26 (.tmp 3), _, _, _, _⟩ :: _) _ _); refine wpList_load_u (by rfl) 26 _ rfl (w.heap.size) (by exact rfl) _ Try.underlying26 (by kernel_rfl) 26 (RQ_w2.out) ?_)
      | ((with_reducible show wpList _ _ _ (⟨none, .store 46 (.tmp 7) (.tmp 25), _, _, _, _⟩ :: _) _ _); refine wpList_store_u rfl 46 _ _ rfl (w1.heap.size) (by exact rfl) (by exact rfl) (by first | assumption | exact rfl) (by first | assumption | exact rfl) (by kernel_rfl) 46 (show URow _ _ _ 0 Z8 0 Z8 false 0 0 from ⟨alloc_at _ _, rfl, rfl⟩) ?_; intro w2 HN HO HB
         have RQ_w2 : Hid (URow w2 (w.heap.size) 26 n bs m cs l c k) := Lib.hid (URow.other (URow.below RQ_w1.out ((Below.refl _ _).alloc (Nat.le_refl _) _) RQ_w1.out.lt) HO.out (Nat.ne_of_lt RQ_w1.out.lt))
         have RR_w2 : Hid (URow w2 w1.heap.size 46 n bs m cs l c k) := HN
         have BB_w2 : Hid (Below w.heap.size w w2) := Lib.hid ((BB_w1.out.alloc BB_w1.out.size _).trans (HB.out.mono BB_w1.out.size))
         clear HO HB HN RQ_w1 BB_w1)
      | (go_at_call 17; have hc := BB_w0; clear hc; refine (HA.out _ _ _ _ _ _ _ _ (by assumption) (by assumption)).mono ?_; rintro e w1 ⟨rfl, hB⟩
         have RQ_w1 : Hid (URow w1 (w.heap.size) 26 n bs m cs l c k) := Lib.hid (URow.below RQ_w0.out hB RQ_w0.out.lt)
         have BB_w1 : Hid (Below w.heap.size w w1) := Lib.hid (BB_w0.out.trans (hB.mono BB_w0.out.size))
         clear hB RQ_w0 BB_w0)
      | ((with_reducible show wpList _ _ _ (⟨some 24, .load 26 (.tmp 3), _, _, _, _⟩ :: _) _ _); refine wpList_load_u (by rfl) 26 _ rfl (w.heap.size) (by exact rfl) _ Try.underlying26 (by kernel_rfl) 26 (RQ_w0.out) ?_))
  simp only [List.append_eq, List.cons_append, List.nil_append]
  generalize w1.heap.size = g1 at *
  generalize w3.heap.size = g2 at *
  generalize w5.heap.size = g3 at *
  generalize w7.heap.size = g4 at *
  generalize w9.heap.size = g5 at *
  generalize wb.heap.size = g6 at *
  generalize wd.heap.size = g7 at *
  refine wp_region_noPanic ?_
  refine wp_region_held_drew (S := fun X => Below wz.heap.size wz X) (by kernel_rfl) ((Below.refl _ wz).drew) (fun hHeld => ?_)
  refine' take_ 0 rfl (by kernel_rfl) (by kernel_rfl) (by kernel_rfl) (fun _ _ _ h => h) (by rfl) (fun wS hSw => run_load_u wS 26 _ w.heap.size rfl _ Try.underlying26 (by kernel_rfl) 26 (RQ_wz.out.below hSw RQ_wz.out.lt) _ _ _ _ _) hHeld ?_
  try simp only [Act.put, List.setIfInBounds_toArray, List.set_cons_zero, List.set_cons_succ]
  refine' take_ 1 rfl (by kernel_rfl) (by kernel_rfl) (by kernel_rfl) (fun _ _ _ h => h) (by rfl) (fun wS hSw => ?_) hHeld ?_
  rotate_left
  focus (go_simp; (try with_reducible rfl); done)
  try simp only [Act.put, List.setIfInBounds_toArray, List.set_cons_zero, List.set_cons_succ]
  refine' take_ 3 rfl (by kernel_rfl) (by kernel_rfl) (by kernel_rfl) (fun _ _ _ h => h) (by rfl) (fun wS hSw => run_load_u wS 46 _ g1 rfl _ Try.underlying46 (by kernel_rfl) 46 (RR_wz.out.below hSw RR_wz.out.lt) _ _ _ _ _) hHeld ?_
  try simp only [Act.put, List.setIfInBounds_toArray, List.set_cons_zero, List.set_cons_succ]
  refine' take_ 4 rfl (by kernel_rfl) (by kernel_rfl) (by kernel_rfl) (fun _ _ _ h => h) (by rfl) (fun wS hSw => ?_) hHeld ?_
  rotate_left
  focus (go_simp; (try with_reducible rfl); done)
  try simp only [Act.put, List.setIfInBounds_toArray, List.set_cons_zero, List.set_cons_succ]
  refine only_ 2 rfl (by kernel_rfl) (by rfl) (fun K hK => ?_)
  go_simp
  (with_reducible refine (K7.out _).mono ?_)
  rintro e wn ⟨rfl, hBn⟩
  go_simp
  refine hK.out _ _ (hHeld.trans (hBn.mono hHeld.size)) (fun hHeld2 => ?_)
  clear hK K hHeld
  have hHeld := hHeld2
  clear hHeld2
  try simp only [Act.put, List.setIfInBounds_toArray, List.set_cons_zero, List.set_cons_succ]
  clear hBn
  refine only_ 5 rfl (by kernel_rfl) (by rfl) (fun K hK => ?_)
  go_simp
  (with_reducible refine (K8.out _).mono ?_)
  rintro e wn ⟨rfl, hBn⟩
  go_simp
  refine hK.out _ _ (hHeld.trans (hBn.mono hHeld.size)) (fun hHeld2 => ?_)
  clear hK K hHeld
  have hHeld := hHeld2
  clear hHeld2
  try simp only [Act.put, List.setIfInBounds_toArray, List.set_cons_zero, List.set_cons_succ]
  clear hBn
  refine' take_ 6 rfl (by kernel_rfl) (by kernel_rfl) (by kernel_rfl) (fun _ _ _ h => h) (by rfl) (fun wS hSw => ?_) hHeld ?_
  rotate_left
  focus (go_simp; (try with_reducible rfl); done)
  try simp only [Act.put, List.setIfInBounds_toArray, List.set_cons_zero, List.set_cons_succ]
  refine' take_ 7 rfl (by kernel_rfl) (by kernel_rfl) (by kernel_rfl) (fun _ _ _ h => h) (by rfl) (fun wS hSw => ?_) hHeld ?_
  rotate_left
  focus (go_simp; (try with_reducible rfl); done)
  try simp only [Act.put, List.setIfInBounds_toArray, List.set_cons_zero, List.set_cons_succ]
  refine' take_ 8 rfl (by kernel_rfl) (by kernel_rfl) (by kernel_rfl) (fun _ _ _ h => h) (by rfl) (fun wS hSw => ?_) hHeld ?_
  rotate_left
  focus (go_simp; (try with_reducible rfl); done)
  try simp only [Act.put, List.setIfInBounds_toArray, List.set_cons_zero, List.set_cons_succ]
  refine' take_ 9 rfl (by kernel_rfl) (by kernel_rfl) (by kernel_rfl) (fun _ _ _ h => h) (by rfl) (fun wS hSw => ?_) hHeld ?_
  rotate_left
  focus (go_simp; (try with_reducible rfl); done)
  try simp only [Act.put, List.setIfInBounds_toArray, List.set_cons_zero, List.set_cons_succ]
  refine' take_ 10 rfl (by kernel_rfl) (by kernel_rfl) (by kernel_rfl) (fun _ _ _ h => h) (by rfl) (fun wS hSw => ?_) hHeld ?_
  rotate_left
  focus (go_simp; (try with_reducible rfl); done)
  try simp only [Act.put, List.setIfInBounds_toArray, List.set_cons_zero, List.set_cons_succ]
  refine' take_ 11 rfl (by kernel_rfl) (by kernel_rfl) (by kernel_rfl) (fun _ _ _ h => h) (by rfl) (fun wS hSw => ?_) hHeld ?_
  rotate_left
  focus (go_simp; (try with_reducible rfl); done)
  try simp only [Act.put, List.setIfInBounds_toArray, List.set_cons_zero, List.set_cons_succ]
  refine' take_ 12 rfl (by kernel_rfl) (by kernel_rfl) (by kernel_rfl) (fun _ _ _ h => h) (by rfl) (fun wS hSw => ?_) hHeld ?_
  rotate_left
  focus (go_simp; (try with_reducible rfl); done)
  try simp only [Act.put, List.setIfInBounds_toArray, List.set_cons_zero, List.set_cons_succ]
  refine' take_ 13 rfl (by kernel_rfl) (by kernel_rfl) (by kernel_rfl) (fun _ _ _ h => h) (by rfl) (fun wS hSw => run_load_u wS 26 _ g2 rfl _ Try.underlying26 (by kernel_rfl) 26 (RB_wz.out.below hSw RB_wz.out.lt) _ _ _ _ _) hHeld ?_
  try simp only [Act.put, List.setIfInBounds_toArray, List.set_cons_zero, List.set_cons_succ]
  refine' take_ 15 rfl (by kernel_rfl) (by kernel_rfl) (by kernel_rfl) (fun _ _ _ h => h) (by rfl) (fun wS hSw => run_load_u wS 46 _ g3 rfl _ Try.underlying46 (by kernel_rfl) 46 (RD_wz.out.below hSw RD_wz.out.lt) _ _ _ _ _) hHeld ?_
  try simp only [Act.put, List.setIfInBounds_toArray, List.set_cons_zero, List.set_cons_succ]
  refine only_ 14 rfl (by kernel_rfl) (by rfl) (fun K hK => ?_)
  go_simp
  (with_reducible refine (HA.out _ _ _ _ _ _ _ _ (by assumption) (by assumption)).mono ?_)
  rintro e wn ⟨rfl, hBn⟩
  go_simp
  refine hK.out _ _ (hHeld.trans (hBn.mono hHeld.size)) (fun hHeld2 => ?_)
  clear hK K hHeld
  have hHeld := hHeld2
  clear hHeld2
  try simp only [Act.put, List.setIfInBounds_toArray, List.set_cons_zero, List.set_cons_succ]
  clear hBn
  refine' take_ 16 rfl (by kernel_rfl) (by kernel_rfl) (by kernel_rfl) (fun _ _ _ h => h) (by rfl) (fun wS hSw => ?_) hHeld ?_
  rotate_left
  focus (first | (rw [show execOp _ _ = _ from rfl]; done) | (go_simp; rw [guard_ru]; go_simp; rw [run_eql_ru _ _ _ _ _ _ _ _ (by assumption) (by assumption)]; (try go_simp); (try with_reducible rfl); done))
  try simp only [Act.put, List.setIfInBounds_toArray, List.set_cons_zero, List.set_cons_succ]
  refine' take_ 17 rfl (by kernel_rfl) (by kernel_rfl) (by kernel_rfl) (fun _ _ _ h => h) (by rfl) (fun wS hSw => ?_) hHeld ?_
  rotate_left
  focus (go_simp; (try with_reducible rfl); done)
  try simp only [Act.put, List.setIfInBounds_toArray, List.set_cons_zero, List.set_cons_succ]
  refine' take_ 18 rfl (by kernel_rfl) (by kernel_rfl) (by kernel_rfl) (fun _ _ _ h => h) (by rfl) (fun wS hSw => ?_) hHeld ?_
  rotate_left
  focus (go_simp; (try with_reducible rfl); done)
  try simp only [Act.put, List.setIfInBounds_toArray, List.set_cons_zero, List.set_cons_succ]
  refine' take_ 19 rfl (by kernel_rfl) (by kernel_rfl) (by kernel_rfl) (fun _ _ _ h => h) (by rfl) (fun wS hSw => run_load_u wS 26 _ w.heap.size rfl _ Try.underlying26 (by kernel_rfl) 26 (RQ_wz.out.below hSw RQ_wz.out.lt) _ _ _ _ _) hHeld ?_
  try simp only [Act.put, List.setIfInBounds_toArray, List.set_cons_zero, List.set_cons_succ]
  refine' take_ 20 rfl (by kernel_rfl) (by kernel_rfl) (by kernel_rfl) (fun _ _ _ h => h) (by rfl) (fun wS hSw => ?_) hHeld ?_
  rotate_left
  focus (go_simp; (try with_reducible rfl); done)
  try simp only [Act.put, List.setIfInBounds_toArray, List.set_cons_zero, List.set_cons_succ]
  refine' take_ 21 rfl (by kernel_rfl) (by kernel_rfl) (by kernel_rfl) (fun _ _ _ h => h) (by rfl) (fun wS hSw => ?_) hHeld ?_
  rotate_left
  focus (go_simp; (try with_reducible rfl); done)
  try simp only [Act.put, List.setIfInBounds_toArray, List.set_cons_zero, List.set_cons_succ]
  refine' take_ 24 rfl (by kernel_rfl) (by kernel_rfl) (by kernel_rfl) (fun _ _ _ h => h) (by rfl) (fun wS hSw => run_load_u wS 46 _ g1 rfl _ Try.underlying46 (by kernel_rfl) 46 (RR_wz.out.below hSw RR_wz.out.lt) _ _ _ _ _) hHeld ?_
  try simp only [Act.put, List.setIfInBounds_toArray, List.set_cons_zero, List.set_cons_succ]
  refine' take_ 25 rfl (by kernel_rfl) (by kernel_rfl) (by kernel_rfl) (fun _ _ _ h => h) (by rfl) (fun wS hSw => ?_) hHeld ?_
  rotate_left
  focus (go_simp; (try with_reducible rfl); done)
  try simp only [Act.put, List.setIfInBounds_toArray, List.set_cons_zero, List.set_cons_succ]
  refine' take_ 26 rfl (by kernel_rfl) (by kernel_rfl) (by kernel_rfl) (fun _ _ _ h => h) (by rfl) (fun wS hSw => ?_) hHeld ?_
  rotate_left
  focus (go_simp; (try with_reducible rfl); done)
  try simp only [Act.put, List.setIfInBounds_toArray, List.set_cons_zero, List.set_cons_succ]
  refine only_ 22 rfl (by kernel_rfl) (by rfl) (fun K hK => ?_)
  go_simp
  (with_reducible refine (K9.out _).mono ?_)
  rintro e wn ⟨rfl, hBn⟩
  go_simp
  refine hK.out _ _ (hHeld.trans (hBn.mono hHeld.size)) (fun hHeld2 => ?_)
  clear hK K hHeld
  have hHeld := hHeld2
  clear hHeld2
  try simp only [Act.put, List.setIfInBounds_toArray, List.set_cons_zero, List.set_cons_succ]
  clear hBn
  refine only_ 23 rfl (by kernel_rfl) (by rfl) (fun K hK => ?_)
  go_simp
  (with_reducible refine (HA.out _ _ _ _ _ _ _ _ (by assumption) (by assumption)).mono ?_)
  rintro e wn ⟨rfl, hBn⟩
  go_simp
  refine hK.out _ _ (hHeld.trans (hBn.mono hHeld.size)) (fun hHeld2 => ?_)
  clear hK K hHeld
  have hHeld := hHeld2
  clear hHeld2
  try simp only [Act.put, List.setIfInBounds_toArray, List.set_cons_zero, List.set_cons_succ]
  clear hBn
  refine only_ 27 rfl (by kernel_rfl) (by rfl) (fun K hK => ?_)
  go_simp
  (with_reducible refine (K10.out _).mono ?_)
  rintro e wn ⟨rfl, hBn⟩
  go_simp
  refine hK.out _ _ (hHeld.trans (hBn.mono hHeld.size)) (fun hHeld2 => ?_)
  clear hK K hHeld
  have hHeld := hHeld2
  clear hHeld2
  try simp only [Act.put, List.setIfInBounds_toArray, List.set_cons_zero, List.set_cons_succ]
  clear hBn
  refine' take_ 28 rfl (by kernel_rfl) (by kernel_rfl) (by kernel_rfl) (fun _ _ _ h => h) (by rfl) (fun wS hSw => ?_) hHeld ?_
  rotate_left
  focus (first | (rw [show execOp _ _ = _ from rfl]; done) | (go_simp; rw [guard_ru]; go_simp; rw [run_eql_ru _ _ _ _ _ _ _ _ (by assumption) (by assumption)]; (try go_simp); (try with_reducible rfl); done))
  try simp only [Act.put, List.setIfInBounds_toArray, List.set_cons_zero, List.set_cons_succ]
  refine' take_ 29 rfl (by kernel_rfl) (by kernel_rfl) (by kernel_rfl) (fun _ _ _ h => h) (by rfl) (fun wS hSw => ?_) hHeld ?_
  rotate_left
  focus (go_simp; (try with_reducible rfl); done)
  try simp only [Act.put, List.setIfInBounds_toArray, List.set_cons_zero, List.set_cons_succ]
  refine' take_ 30 rfl (by kernel_rfl) (by kernel_rfl) (by kernel_rfl) (fun _ _ _ h => h) (by rfl) (fun wS hSw => ?_) hHeld ?_
  rotate_left
  focus (go_simp; (try with_reducible rfl); done)
  try simp only [Act.put, List.setIfInBounds_toArray, List.set_cons_zero, List.set_cons_succ]
  refine' take_ 31 rfl (by kernel_rfl) (by kernel_rfl) (by kernel_rfl) (fun _ _ _ h => h) (by rfl) (fun wS hSw => run_load_u wS 26 _ g4 rfl _ Try.underlying26 (by kernel_rfl) 26 (RE_wz.out.below hSw RE_wz.out.lt) _ _ _ _ _) hHeld ?_
  try simp only [Act.put, List.setIfInBounds_toArray, List.set_cons_zero, List.set_cons_succ]
  refine' take_ 33 rfl (by kernel_rfl) (by kernel_rfl) (by kernel_rfl) (fun _ _ _ h => h) (by rfl) (fun wS hSw => run_load_u wS 46 _ g5 rfl _ Try.underlying46 (by kernel_rfl) 46 (RG_wz.out.below hSw RG_wz.out.lt) _ _ _ _ _) hHeld ?_
  try simp only [Act.put, List.setIfInBounds_toArray, List.set_cons_zero, List.set_cons_succ]
  refine only_ 32 rfl (by kernel_rfl) (by rfl) (fun K hK => ?_)
  go_simp
  (with_reducible refine (HA.out _ _ _ _ _ _ _ _ (by assumption) (by assumption)).mono ?_)
  rintro e wn ⟨rfl, hBn⟩
  go_simp
  refine hK.out _ _ (hHeld.trans (hBn.mono hHeld.size)) (fun hHeld2 => ?_)
  clear hK K hHeld
  have hHeld := hHeld2
  clear hHeld2
  try simp only [Act.put, List.setIfInBounds_toArray, List.set_cons_zero, List.set_cons_succ]
  clear hBn
  refine' take_ 34 rfl (by kernel_rfl) (by kernel_rfl) (by kernel_rfl) (fun _ _ _ h => h) (by rfl) (fun wS hSw => ?_) hHeld ?_
  rotate_left
  focus (first | (rw [show execOp _ _ = _ from rfl]; done) | (go_simp; rw [guard_ru]; go_simp; rw [run_eql_ru _ _ _ _ _ _ _ _ (by assumption) (by assumption)]; (try go_simp); (try with_reducible rfl); done))
  try simp only [Act.put, List.setIfInBounds_toArray, List.set_cons_zero, List.set_cons_succ]
  refine' take_ 35 rfl (by kernel_rfl) (by kernel_rfl) (by kernel_rfl) (fun _ _ _ h => h) (by rfl) (fun wS hSw => ?_) hHeld ?_
  rotate_left
  focus (go_simp; (try with_reducible rfl); done)
  try simp only [Act.put, List.setIfInBounds_toArray, List.set_cons_zero, List.set_cons_succ]
  refine' take_ 36 rfl (by kernel_rfl) (by kernel_rfl) (by kernel_rfl) (fun _ _ _ h => h) (by rfl) (fun wS hSw => ?_) hHeld ?_
  rotate_left
  focus (go_simp; (try with_reducible rfl); done)
  try simp only [Act.put, List.setIfInBounds_toArray, List.set_cons_zero, List.set_cons_succ]
  refine' take_ 37 rfl (by kernel_rfl) (by kernel_rfl) (by kernel_rfl) (fun _ _ _ h => h) (by rfl) (fun wS hSw => ?_) hHeld ?_
  rotate_left
  focus (go_simp; (try with_reducible rfl); done)
  try simp only [Act.put, List.setIfInBounds_toArray, List.set_cons_zero, List.set_cons_succ]
  refine' take_ 38 rfl (by kernel_rfl) (by kernel_rfl) (by kernel_rfl) (fun _ _ _ h => h) (by rfl) (fun wS hSw => ?_) hHeld ?_
  rotate_left
  focus (go_simp; (try with_reducible rfl); done)
  try simp only [Act.put, List.setIfInBounds_toArray, List.set_cons_zero, List.set_cons_succ]
  refine' take_ 39 rfl (by kernel_rfl) (by kernel_rfl) (by kernel_rfl) (fun _ _ _ h => h) (by rfl) (fun wS hSw => ?_) hHeld ?_
  rotate_left
  focus (go_simp; (try with_reducible rfl); done)
  try simp only [Act.put, List.setIfInBounds_toArray, List.set_cons_zero, List.set_cons_succ]
  refine' take_ 40 rfl (by kernel_rfl) (by kernel_rfl) (by kernel_rfl) (fun _ _ _ h => h) (by rfl) (fun wS hSw => ?_) hHeld ?_
  rotate_left
  focus (go_simp; (try with_reducible rfl); done)
  try simp only [Act.put, List.setIfInBounds_toArray, List.set_cons_zero, List.set_cons_succ]
  refine' take_ 41 rfl (by kernel_rfl) (by kernel_rfl) (by kernel_rfl) (fun _ _ _ h => h) (by rfl) (fun wS hSw => ?_) hHeld ?_
  rotate_left
  focus (go_simp; (try with_reducible rfl); done)
  try simp only [Act.put, List.setIfInBounds_toArray, List.set_cons_zero, List.set_cons_succ]
  refine' take_ 42 rfl (by kernel_rfl) (by kernel_rfl) (by kernel_rfl) (fun _ _ _ h => h) (by rfl) (fun wS hSw => run_load_u wS 26 _ g6 rfl _ Try.underlying26 (by kernel_rfl) 26 (RI_wz.out.below hSw RI_wz.out.lt) _ _ _ _ _) hHeld ?_
  try simp only [Act.put, List.setIfInBounds_toArray, List.set_cons_zero, List.set_cons_succ]
  refine' take_ 44 rfl (by kernel_rfl) (by kernel_rfl) (by kernel_rfl) (fun _ _ _ h => h) (by rfl) (fun wS hSw => run_load_u wS 46 _ g7 rfl _ Try.underlying46 (by kernel_rfl) 46 (RN_wz.out.below hSw RN_wz.out.lt) _ _ _ _ _) hHeld ?_
  try simp only [Act.put, List.setIfInBounds_toArray, List.set_cons_zero, List.set_cons_succ]
  refine only_ 43 rfl (by kernel_rfl) (by rfl) (fun K hK => ?_)
  go_simp
  (with_reducible refine (HA.out _ _ _ _ _ _ _ _ (by assumption) (by assumption)).mono ?_)
  rintro e wn ⟨rfl, hBn⟩
  go_simp
  refine hK.out _ _ (hHeld.trans (hBn.mono hHeld.size)) (fun hHeld2 => ?_)
  clear hK K hHeld
  have hHeld := hHeld2
  clear hHeld2
  try simp only [Act.put, List.setIfInBounds_toArray, List.set_cons_zero, List.set_cons_succ]
  clear hBn
  refine' take_ 45 rfl (by kernel_rfl) (by kernel_rfl) (by kernel_rfl) (fun _ _ _ h => h) (by rfl) (fun wS hSw => ?_) hHeld ?_
  rotate_left
  focus (first | (rw [show execOp _ _ = _ from rfl]; done) | (go_simp; rw [guard_ru]; go_simp; rw [run_eql_ru _ _ _ _ _ _ _ _ (by assumption) (by assumption)]; (try go_simp); (try with_reducible rfl); done))
  try simp only [Act.put, List.setIfInBounds_toArray, List.set_cons_zero, List.set_cons_succ]
  refine' take_ 46 rfl (by kernel_rfl) (by kernel_rfl) (by kernel_rfl) (fun _ _ _ h => h) (by rfl) (fun wS hSw => ?_) hHeld ?_
  rotate_left
  focus (go_simp; (try with_reducible rfl); done)
  try simp only [Act.put, List.setIfInBounds_toArray, List.set_cons_zero, List.set_cons_succ]
  refine' take_ 47 rfl (by kernel_rfl) (by kernel_rfl) (by kernel_rfl) (fun _ _ _ h => h) (by rfl) (fun wS hSw => ?_) hHeld ?_
  rotate_left
  focus (go_simp; (try with_reducible rfl); done)
  try simp only [Act.put, List.setIfInBounds_toArray, List.set_cons_zero, List.set_cons_succ]
  refine' take_ 48 rfl (by kernel_rfl) (by kernel_rfl) (by kernel_rfl) (fun _ _ _ h => h) (by rfl) (fun wS hSw => ?_) hHeld ?_
  rotate_left
  focus (go_simp; (try with_reducible rfl); done)
  try simp only [Act.put, List.setIfInBounds_toArray, List.set_cons_zero, List.set_cons_succ]
  refine' take_ 49 rfl (by kernel_rfl) (by kernel_rfl) (by kernel_rfl) (fun _ _ _ h => h) (by rfl) (fun wS hSw => ?_) hHeld ?_
  rotate_left
  focus (go_simp; (try with_reducible rfl); done)
  try simp only [Act.put, List.setIfInBounds_toArray, List.set_cons_zero, List.set_cons_succ]
  refine' take_ 50 rfl (by kernel_rfl) (by kernel_rfl) (by kernel_rfl) (fun _ _ _ h => h) (by rfl) (fun wS hSw => ?_) hHeld ?_
  rotate_left
  focus (go_simp; (try with_reducible rfl); done)
  try simp only [Act.put, List.setIfInBounds_toArray, List.set_cons_zero, List.set_cons_succ]
  refine' take_ 51 rfl (by kernel_rfl) (by kernel_rfl) (by kernel_rfl) (fun _ _ _ h => h) (by rfl) (fun wS hSw => ?_) hHeld ?_
  rotate_left
  focus (go_simp; (try with_reducible rfl); done)
  try simp only [Act.put, List.setIfInBounds_toArray, List.set_cons_zero, List.set_cons_succ]
  refine' take_ 52 rfl (by kernel_rfl) (by kernel_rfl) (by kernel_rfl) (fun _ _ _ h => h) (by rfl) (fun wS hSw => ?_) hHeld ?_
  rotate_left
  focus (go_simp; (try with_reducible rfl); done)
  try simp only [Act.put, List.setIfInBounds_toArray, List.set_cons_zero, List.set_cons_succ]
  refine' take_ 53 rfl (by kernel_rfl) (by kernel_rfl) (by kernel_rfl) (fun _ _ _ h => h) (by rfl) (fun wS hSw => ?_) hHeld ?_
  rotate_left
  focus (go_simp; (try with_reducible rfl); done)
  try simp only [Act.put, List.setIfInBounds_toArray, List.set_cons_zero, List.set_cons_succ]
  refine' take_ 54 rfl (by kernel_rfl) (by kernel_rfl) (by kernel_rfl) (fun _ _ _ h => h) (by rfl) (fun wS hSw => ?_) hHeld ?_
  rotate_left
  focus (go_simp; (try with_reducible rfl); done)
  try simp only [Act.put, List.setIfInBounds_toArray, List.set_cons_zero, List.set_cons_succ]
  refine' take_ 55 rfl (by kernel_rfl) (by kernel_rfl) (by kernel_rfl) (fun _ _ _ h => h) (by rfl) (fun wS hSw => ?_) hHeld ?_
  rotate_left
  focus (go_simp; (try with_reducible rfl); done)
  try simp only [Act.put, List.setIfInBounds_toArray, List.set_cons_zero, List.set_cons_succ]
  refine' take_ 56 rfl (by kernel_rfl) (by kernel_rfl) (by kernel_rfl) (fun _ _ _ h => h) (by rfl) (fun wS hSw => ?_) hHeld ?_
  rotate_left
  focus (go_simp; (try with_reducible rfl); done)
  try simp only [Act.put, List.setIfInBounds_toArray, List.set_cons_zero, List.set_cons_succ]
  refine' take_ 57 rfl (by kernel_rfl) (by kernel_rfl) (by kernel_rfl) (fun _ _ _ h => h) (by rfl) (fun wS hSw => ?_) hHeld ?_
  rotate_left
  focus (go_simp; (try with_reducible rfl); done)
  try simp only [Act.put, List.setIfInBounds_toArray, List.set_cons_zero, List.set_cons_succ]
  refine' take_ 58 rfl (by kernel_rfl) (by kernel_rfl) (by kernel_rfl) (fun _ _ _ h => h) (by rfl) (fun wS hSw => ?_) hHeld ?_
  rotate_left
  focus (go_simp; (try with_reducible rfl); done)
  try simp only [Act.put, List.setIfInBounds_toArray, List.set_cons_zero, List.set_cons_succ]
  refine' take_ 59 rfl (by kernel_rfl) (by kernel_rfl) (by kernel_rfl) (fun _ _ _ h => h) (by rfl) (fun wS hSw => ?_) hHeld ?_
  rotate_left
  focus (go_simp; (try with_reducible rfl); done)
  try simp only [Act.put, List.setIfInBounds_toArray, List.set_cons_zero, List.set_cons_succ]
  refine' take_ 60 rfl (by kernel_rfl) (by kernel_rfl) (by kernel_rfl) (fun _ _ _ h => h) (by rfl) (fun wS hSw => ?_) hHeld ?_
  rotate_left
  focus (go_simp; (try with_reducible rfl); done)
  try simp only [Act.put, List.setIfInBounds_toArray, List.set_cons_zero, List.set_cons_succ]
  refine' take_ 61 rfl (by kernel_rfl) (by kernel_rfl) (by kernel_rfl) (fun _ _ _ h => h) (by rfl) (fun wS hSw => ?_) hHeld ?_
  rotate_left
  focus (go_simp; (try with_reducible rfl); done)
  try simp only [Act.put, List.setIfInBounds_toArray, List.set_cons_zero, List.set_cons_succ]
  refine' take_ 62 rfl (by kernel_rfl) (by kernel_rfl) (by kernel_rfl) (fun _ _ _ h => h) (by rfl) (fun wS hSw => ?_) hHeld ?_
  rotate_left
  focus (go_simp; (try with_reducible rfl); done)
  try simp only [Act.put, List.setIfInBounds_toArray, List.set_cons_zero, List.set_cons_succ]
  refine' take_ 63 rfl (by kernel_rfl) (by kernel_rfl) (by kernel_rfl) (fun _ _ _ h => h) (by rfl) (fun wS hSw => run_load_u wS 26 _ w.heap.size rfl _ Try.underlying26 (by kernel_rfl) 26 (RQ_wz.out.below hSw RQ_wz.out.lt) _ _ _ _ _) hHeld ?_
  try simp only [Act.put, List.setIfInBounds_toArray, List.set_cons_zero, List.set_cons_succ]
  refine' take_ 66 rfl (by kernel_rfl) (by kernel_rfl) (by kernel_rfl) (fun _ _ _ h => h) (by rfl) (fun wS hSw => run_load_u wS 46 _ g1 rfl _ Try.underlying46 (by kernel_rfl) 46 (RR_wz.out.below hSw RR_wz.out.lt) _ _ _ _ _) hHeld ?_
  try simp only [Act.put, List.setIfInBounds_toArray, List.set_cons_zero, List.set_cons_succ]
  refine only_ 64 rfl (by kernel_rfl) (by rfl) (fun K hK => ?_)
  go_simp
  (with_reducible refine (K11.out _).mono ?_)
  rintro e wn ⟨rfl, hBn⟩
  go_simp
  refine hK.out _ _ (hHeld.trans (hBn.mono hHeld.size)) (fun hHeld2 => ?_)
  clear hK K hHeld
  have hHeld := hHeld2
  clear hHeld2
  try simp only [Act.put, List.setIfInBounds_toArray, List.set_cons_zero, List.set_cons_succ]
  clear hBn
  refine only_ 65 rfl (by kernel_rfl) (by rfl) (fun K hK => ?_)
  go_simp
  (with_reducible refine (HA.out _ _ _ _ _ _ _ _ (by assumption) (by assumption)).mono ?_)
  rintro e wn ⟨rfl, hBn⟩
  go_simp
  refine hK.out _ _ (hHeld.trans (hBn.mono hHeld.size)) (fun hHeld2 => ?_)
  clear hK K hHeld
  have hHeld := hHeld2
  clear hHeld2
  try simp only [Act.put, List.setIfInBounds_toArray, List.set_cons_zero, List.set_cons_succ]
  clear hBn
  refine only_ 67 rfl (by kernel_rfl) (by rfl) (fun K hK => ?_)
  go_simp
  (with_reducible refine (K12.out _).mono ?_)
  rintro e wn ⟨rfl, hBn⟩
  go_simp
  refine hK.out _ _ (hHeld.trans (hBn.mono hHeld.size)) (fun hHeld2 => ?_)
  clear hK K hHeld
  have hHeld := hHeld2
  clear hHeld2
  try simp only [Act.put, List.setIfInBounds_toArray, List.set_cons_zero, List.set_cons_succ]
  clear hBn
  refine' take_ 68 rfl (by kernel_rfl) (by kernel_rfl) (by kernel_rfl) (fun _ _ _ h => h) (by rfl) (fun wS hSw => ?_) hHeld ?_
  rotate_left
  focus (first | (rw [show execOp _ _ = _ from rfl]; done) | (go_simp; rw [guard_ru]; go_simp; rw [run_eql_ru _ _ _ _ _ _ _ _ (by assumption) (by assumption)]; (try go_simp); (try with_reducible rfl); done))
  try simp only [Act.put, List.setIfInBounds_toArray, List.set_cons_zero, List.set_cons_succ]
  refine' take_ 69 rfl (by kernel_rfl) (by kernel_rfl) (by kernel_rfl) (fun _ _ _ h => h) (by rfl) (fun wS hSw => ?_) hHeld ?_
  rotate_left
  focus (go_simp; (try with_reducible rfl); done)
  try simp only [Act.put, List.setIfInBounds_toArray, List.set_cons_zero, List.set_cons_succ]
  refine' take_ 70 rfl (by kernel_rfl) (by kernel_rfl) (by kernel_rfl) (fun _ _ _ h => h) (by rfl) (fun wS hSw => ?_) hHeld ?_
  rotate_left
  focus (go_simp; (try with_reducible rfl); done)
  try simp only [Act.put, List.setIfInBounds_toArray, List.set_cons_zero, List.set_cons_succ]
  refine wpAnyH_done (by kernel_rfl) ?_ _
  refine NoPanic.normal ?_
  go_wp2
  go_ret
  exact ⟨rfl, BB_wz.out.trans (hHeld.mono BB_wz.out.size)⟩
end Go.Proofs.Ytgpgijdciaieaaa
