/-
  works: by its contract: the chapter's examples: true. Made by wip/gengpioworks.py.
-/
import Derived.Test.YticeeeomhdcffaaInts
namespace Go.Proofs.Yticeeeomhdcffaa
open Go.RowKit
set_option linter.unusedVariables false
set_option maxHeartbeats 1000000 in
set_option maxRecDepth 100000 in
theorem works_any (H : GpioOk) (w : World) : Calls Try.prog 15 #[] w fun e w' => e = .returned (.bool true) ∧ Below w.heap.size w w' := by
  have K1 : Hid (∀ W : World, Calls Try.prog 6 #[gv 0 2 0, .int .i64 2, .int .i32 261] W fun e w' => e = .returned (gv 0 2 5) ∧ Below W.heap.size W w') := Lib.hid (fun W => by
    have h := H.write 0 2 0 2 261 W (by decide) (by decide) (by decide) (by decide) (by decide) (by decide) (by decide)
    rw [show gv (outN 0 2 261) 2 (edgeN 0 2 261) = gv 0 2 5 from by kernel_rfl] at h
    exact h)
  have K2 : Hid (∀ W : World, Calls Try.prog 8 #[gv 0 2 5, .int .u8 2] W fun e w' => e = .returned (.tuple #[gv 0 2 5, .bool false]) ∧ Below W.heap.size W w') := Lib.hid (fun W => by
    have h := H.pins 0 2 5 2 W (by decide) (by decide) (by decide) (by decide)
    rw [show asksL 5 (riseK 2 2 8) = false from by kernel_rfl] at h
    exact h)
  have K3 : Hid (∀ W : World, Calls Try.prog 8 #[gv 0 2 5, .int .u8 3] W fun e w' => e = .returned (.tuple #[gv 0 3 5, .bool true]) ∧ Below W.heap.size W w') := Lib.hid (fun W => by
    have h := H.pins 0 2 5 3 W (by decide) (by decide) (by decide) (by decide)
    rw [show asksL 5 (riseK 2 3 8) = true from by kernel_rfl] at h
    exact h)
  have K4 : Hid (∀ W : World, Calls Try.prog 8 #[gv 0 3 5, .int .u8 3] W fun e w' => e = .returned (.tuple #[gv 0 3 5, .bool false]) ∧ Below W.heap.size W w') := Lib.hid (fun W => by
    have h := H.pins 0 3 5 3 W (by decide) (by decide) (by decide) (by decide)
    rw [show asksL 5 (riseK 3 3 8) = false from by kernel_rfl] at h
    exact h)
  have K5 : Hid (∀ W : World, Calls Try.prog 8 #[gv 0 3 5, .int .u8 7] W fun e w' => e = .returned (.tuple #[gv 0 7 5, .bool true]) ∧ Below W.heap.size W w') := Lib.hid (fun W => by
    have h := H.pins 0 3 5 7 W (by decide) (by decide) (by decide) (by decide)
    rw [show asksL 5 (riseK 3 7 8) = true from by kernel_rfl] at h
    exact h)
  have K6 : Hid (∀ W : World, Calls Try.prog 13 #[gv 0 2 5, .int .i64 2] W fun e w' => e = .returned (.int .i32 5) ∧ Below W.heap.size W w') := Lib.hid (fun W => by
    have h := H.peek 0 2 5 2 W (by decide) (by decide) (by decide) (by decide) (by decide)
    rw [show peekN 0 2 5 2 = 5 from by kernel_rfl] at h
    exact h)
  have K7 : Hid (∀ W : World, Calls Try.prog 6 #[gv 0 2 5, .int .i64 1, .int .i32 9] W fun e w' => e = .returned (gv 0 2 5) ∧ Below W.heap.size W w') := Lib.hid (fun W => by
    have h := H.write 0 2 5 1 9 W (by decide) (by decide) (by decide) (by decide) (by decide) (by decide) (by decide)
    rw [show gv (outN 0 1 9) 2 (edgeN 5 1 9) = gv 0 2 5 from by kernel_rfl] at h
    exact h)
  have K8 : Hid (∀ W : World, Calls Try.prog 13 #[gv 0 2 5, .int .i64 1] W fun e w' => e = .returned (.int .i32 2) ∧ Below W.heap.size W w') := Lib.hid (fun W => by
    have h := H.peek 0 2 5 1 W (by decide) (by decide) (by decide) (by decide) (by decide)
    rw [show peekN 0 2 5 1 = 2 from by kernel_rfl] at h
    exact h)
  have KR : Hid (∀ W : World, Calls Try.prog 11 #[.int .u8 5, .int .u8 14] W fun x w' => ∃ v, x = .returned v ∧ OwnN w' W.heap.size v [1, 3] ∧ Below W.heap.size W w') := Lib.hid (fun W => by
    have h := H.rising 5 14 W (by decide) (by decide)
    rw [show riseK 5 14 8 = [1, 3] from by kernel_rfl] at h
    exact h)
  have BB_w : Hid (Below w.heap.size w w) := Lib.hid (Below.refl _ _)
  go_enter Try.func15, Try.ntmps15
  go_upto_region 6 with (first
      | ((with_reducible show wpList _ _ _ (⟨none, .store 24 (.tmp 8) (.tmp 30), _, _, _, _⟩ :: _) _ _); refine wpList_store_g rfl 24 _ _ rfl (w9.heap.size) (by exact rfl) 0 7 5 (by exact rfl) (by kernel_rfl) 24 _ _ _ (show GRow _ _ _ 0 0 0 from alloc_at _ _) ?_; intro wz HN HO HB
         have RA_wz : Hid (GRow wz (w1.heap.size) 24 0 2 5) := Lib.hid ((HO.out _ (Nat.ne_of_lt RA_w9.out.lt)).trans (GRow.below RA_w9.out ((Below.refl _ _).alloc (Nat.le_refl _) _) RA_w9.out.lt))
         have RB_wz : Hid (GRow wz (w3.heap.size) 24 0 2 5) := Lib.hid ((HO.out _ (Nat.ne_of_lt RB_w9.out.lt)).trans (GRow.below RB_w9.out ((Below.refl _ _).alloc (Nat.le_refl _) _) RB_w9.out.lt))
         have RC_wz : Hid (GRow wz (w5.heap.size) 24 0 3 5) := Lib.hid ((HO.out _ (Nat.ne_of_lt RC_w9.out.lt)).trans (GRow.below RC_w9.out ((Below.refl _ _).alloc (Nat.le_refl _) _) RC_w9.out.lt))
         have RD_wz : Hid (GRow wz (w7.heap.size) 24 0 3 5) := Lib.hid ((HO.out _ (Nat.ne_of_lt RD_w9.out.lt)).trans (GRow.below RD_w9.out ((Below.refl _ _).alloc (Nat.le_refl _) _) RD_w9.out.lt))
         have RE_wz : Hid (GRow wz w9.heap.size 24 0 7 5) := HN
         have BB_wz : Hid (Below w.heap.size w wz) := Lib.hid ((BB_w9.out.alloc BB_w9.out.size _).trans (HB.out.mono BB_w9.out.size))
         have BZ_0 : Hid (Below wz.heap.size wz wz) := Lib.hid (Below.refl _ _)
         clear HO HB HN RA_w9 RB_w9 RC_w9 RD_w9 BB_w9)
      | (go_at_call 8; have hc := BB_w8; clear hc; refine (K5.out _).mono ?_; rintro e w9 ⟨rfl, hB⟩
         have RA_w9 : Hid (GRow w9 (w1.heap.size) 24 0 2 5) := Lib.hid (GRow.below RA_w8.out hB RA_w8.out.lt)
         have RB_w9 : Hid (GRow w9 (w3.heap.size) 24 0 2 5) := Lib.hid (GRow.below RB_w8.out hB RB_w8.out.lt)
         have RC_w9 : Hid (GRow w9 (w5.heap.size) 24 0 3 5) := Lib.hid (GRow.below RC_w8.out hB RC_w8.out.lt)
         have RD_w9 : Hid (GRow w9 (w7.heap.size) 24 0 3 5) := Lib.hid (GRow.below RD_w8.out hB RD_w8.out.lt)
         have BB_w9 : Hid (Below w.heap.size w w9) := Lib.hid (BB_w8.out.trans (hB.mono BB_w8.out.size))
         clear hB RA_w8 RB_w8 RC_w8 RD_w8 BB_w8)
      | ((with_reducible show wpList _ _ _ (⟨some 28, .load 24 (.tmp 6), _, _, _, _⟩ :: _) _ _); refine wpList_load_g (by rfl) 24 _ rfl (w7.heap.size) (by exact rfl) _ Try.underlying24 (by kernel_rfl) 24 _ _ _ (RD_w8.out) ?_)
      | ((with_reducible show wpList _ _ _ (⟨none, .store 24 (.tmp 6) (.tmp 25), _, _, _, _⟩ :: _) _ _); refine wpList_store_g rfl 24 _ _ rfl (w7.heap.size) (by exact rfl) 0 3 5 (by exact rfl) (by kernel_rfl) 24 _ _ _ (show GRow _ _ _ 0 0 0 from alloc_at _ _) ?_; intro w8 HN HO HB
         have RA_w8 : Hid (GRow w8 (w1.heap.size) 24 0 2 5) := Lib.hid ((HO.out _ (Nat.ne_of_lt RA_w7.out.lt)).trans (GRow.below RA_w7.out ((Below.refl _ _).alloc (Nat.le_refl _) _) RA_w7.out.lt))
         have RB_w8 : Hid (GRow w8 (w3.heap.size) 24 0 2 5) := Lib.hid ((HO.out _ (Nat.ne_of_lt RB_w7.out.lt)).trans (GRow.below RB_w7.out ((Below.refl _ _).alloc (Nat.le_refl _) _) RB_w7.out.lt))
         have RC_w8 : Hid (GRow w8 (w5.heap.size) 24 0 3 5) := Lib.hid ((HO.out _ (Nat.ne_of_lt RC_w7.out.lt)).trans (GRow.below RC_w7.out ((Below.refl _ _).alloc (Nat.le_refl _) _) RC_w7.out.lt))
         have RD_w8 : Hid (GRow w8 w7.heap.size 24 0 3 5) := HN
         have BB_w8 : Hid (Below w.heap.size w w8) := Lib.hid ((BB_w7.out.alloc BB_w7.out.size _).trans (HB.out.mono BB_w7.out.size))
         clear HO HB HN RA_w7 RB_w7 RC_w7 BB_w7)
      | (go_at_call 8; have hc := BB_w6; clear hc; refine (K4.out _).mono ?_; rintro e w7 ⟨rfl, hB⟩
         have RA_w7 : Hid (GRow w7 (w1.heap.size) 24 0 2 5) := Lib.hid (GRow.below RA_w6.out hB RA_w6.out.lt)
         have RB_w7 : Hid (GRow w7 (w3.heap.size) 24 0 2 5) := Lib.hid (GRow.below RB_w6.out hB RB_w6.out.lt)
         have RC_w7 : Hid (GRow w7 (w5.heap.size) 24 0 3 5) := Lib.hid (GRow.below RC_w6.out hB RC_w6.out.lt)
         have BB_w7 : Hid (Below w.heap.size w w7) := Lib.hid (BB_w6.out.trans (hB.mono BB_w6.out.size))
         clear hB RA_w6 RB_w6 RC_w6 BB_w6)
      | ((with_reducible show wpList _ _ _ (⟨some 23, .load 24 (.tmp 4), _, _, _, _⟩ :: _) _ _); refine wpList_load_g (by rfl) 24 _ rfl (w5.heap.size) (by exact rfl) _ Try.underlying24 (by kernel_rfl) 24 _ _ _ (RC_w6.out) ?_)
      | ((with_reducible show wpList _ _ _ (⟨none, .store 24 (.tmp 4) (.tmp 20), _, _, _, _⟩ :: _) _ _); refine wpList_store_g rfl 24 _ _ rfl (w5.heap.size) (by exact rfl) 0 3 5 (by exact rfl) (by kernel_rfl) 24 _ _ _ (show GRow _ _ _ 0 0 0 from alloc_at _ _) ?_; intro w6 HN HO HB
         have RA_w6 : Hid (GRow w6 (w1.heap.size) 24 0 2 5) := Lib.hid ((HO.out _ (Nat.ne_of_lt RA_w5.out.lt)).trans (GRow.below RA_w5.out ((Below.refl _ _).alloc (Nat.le_refl _) _) RA_w5.out.lt))
         have RB_w6 : Hid (GRow w6 (w3.heap.size) 24 0 2 5) := Lib.hid ((HO.out _ (Nat.ne_of_lt RB_w5.out.lt)).trans (GRow.below RB_w5.out ((Below.refl _ _).alloc (Nat.le_refl _) _) RB_w5.out.lt))
         have RC_w6 : Hid (GRow w6 w5.heap.size 24 0 3 5) := HN
         have BB_w6 : Hid (Below w.heap.size w w6) := Lib.hid ((BB_w5.out.alloc BB_w5.out.size _).trans (HB.out.mono BB_w5.out.size))
         clear HO HB HN RA_w5 RB_w5 BB_w5)
      | (go_at_call 8; have hc := BB_w4; clear hc; refine (K3.out _).mono ?_; rintro e w5 ⟨rfl, hB⟩
         have RA_w5 : Hid (GRow w5 (w1.heap.size) 24 0 2 5) := Lib.hid (GRow.below RA_w4.out hB RA_w4.out.lt)
         have RB_w5 : Hid (GRow w5 (w3.heap.size) 24 0 2 5) := Lib.hid (GRow.below RB_w4.out hB RB_w4.out.lt)
         have BB_w5 : Hid (Below w.heap.size w w5) := Lib.hid (BB_w4.out.trans (hB.mono BB_w4.out.size))
         clear hB RA_w4 RB_w4 BB_w4)
      | ((with_reducible show wpList _ _ _ (⟨some 18, .load 24 (.tmp 2), _, _, _, _⟩ :: _) _ _); refine wpList_load_g (by rfl) 24 _ rfl (w3.heap.size) (by exact rfl) _ Try.underlying24 (by kernel_rfl) 24 _ _ _ (RB_w4.out) ?_)
      | ((with_reducible show wpList _ _ _ (⟨none, .store 24 (.tmp 2) (.tmp 15), _, _, _, _⟩ :: _) _ _); refine wpList_store_g rfl 24 _ _ rfl (w3.heap.size) (by exact rfl) 0 2 5 (by exact rfl) (by kernel_rfl) 24 _ _ _ (show GRow _ _ _ 0 0 0 from alloc_at _ _) ?_; intro w4 HN HO HB
         have RA_w4 : Hid (GRow w4 (w1.heap.size) 24 0 2 5) := Lib.hid ((HO.out _ (Nat.ne_of_lt RA_w3.out.lt)).trans (GRow.below RA_w3.out ((Below.refl _ _).alloc (Nat.le_refl _) _) RA_w3.out.lt))
         have RB_w4 : Hid (GRow w4 w3.heap.size 24 0 2 5) := HN
         have BB_w4 : Hid (Below w.heap.size w w4) := Lib.hid ((BB_w3.out.alloc BB_w3.out.size _).trans (HB.out.mono BB_w3.out.size))
         clear HO HB HN RA_w3 BB_w3)
      | (go_at_call 8; have hc := BB_w2; clear hc; refine (K2.out _).mono ?_; rintro e w3 ⟨rfl, hB⟩
         have RA_w3 : Hid (GRow w3 (w1.heap.size) 24 0 2 5) := Lib.hid (GRow.below RA_w2.out hB RA_w2.out.lt)
         have BB_w3 : Hid (Below w.heap.size w w3) := Lib.hid (BB_w2.out.trans (hB.mono BB_w2.out.size))
         clear hB RA_w2 BB_w2)
      | ((with_reducible show wpList _ _ _ (⟨some 13, .load 24 (.tmp 1), _, _, _, _⟩ :: _) _ _); refine wpList_load_g (by rfl) 24 _ rfl (w1.heap.size) (by exact rfl) _ Try.underlying24 (by kernel_rfl) 24 _ _ _ (RA_w2.out) ?_)
      | ((with_reducible show wpList _ _ _ (⟨none, .store 24 (.tmp 1) (.tmp 11), _, _, _, _⟩ :: _) _ _); refine wpList_store_g rfl 24 _ _ rfl (w1.heap.size) (by exact rfl) 0 2 5 (by exact rfl) (by kernel_rfl) 24 _ _ _ (show GRow _ _ _ 0 0 0 from alloc_at _ _) ?_; intro w2 HN HO HB
         have RA_w2 : Hid (GRow w2 w1.heap.size 24 0 2 5) := HN
         have BB_w2 : Hid (Below w.heap.size w w2) := Lib.hid ((BB_w1.out.alloc BB_w1.out.size _).trans (HB.out.mono BB_w1.out.size))
         clear HO HB HN  BB_w1)
      | (go_at_call 6; have hc := BB_w; clear hc; refine (K1.out _).mono ?_; rintro e w1 ⟨rfl, hB⟩
         have BB_w1 : Hid (Below w.heap.size w w1) := Lib.hid (BB_w.out.trans (hB.mono BB_w.out.size))
         clear hB  BB_w))
  go_wp2_with (first
      | (go_at_call 13; have hc := BZ_4; clear hc; refine (K8.out _).mono ?_; rintro e x5 ⟨rfl, hB⟩
         have BZ_5 : Hid (Below wz.heap.size wz x5) := Lib.hid (BZ_4.out.trans (hB.mono BZ_4.out.size))
         clear hB BZ_4)
      | (go_at_call 6; have hc := BZ_3; clear hc; refine (K7.out _).mono ?_; rintro e x4 ⟨rfl, hB⟩
         have BZ_4 : Hid (Below wz.heap.size wz x4) := Lib.hid (BZ_3.out.trans (hB.mono BZ_3.out.size))
         clear hB BZ_3)
      | ((with_reducible show wpList _ _ _ (⟨some 55, .load 24 (.tmp 1), _, _, _, _⟩ :: _) _ _); refine wpList_load_g (by kernel_rfl) 24 _ rfl (w1.heap.size) (by exact rfl) _ Try.underlying24 (by kernel_rfl) 24 _ _ _ (GRow.below RA_wz.out BZ_3.out RA_wz.out.lt) ?_)
      | (go_at_call 10; have hc := BZ_2; clear hc; refine (ints_same A (some _) c 2 [1, 3] _ (HR.out.below ((Below.refl _ _).alloc (Nat.le_refl _) _)) (show RdN _ _ [1, 3] from RdN.new _ [1, 3] 3) (by decide)).mono ?_; rintro e x3 ⟨rfl, hB⟩
         have BZ_3 : Hid (Below wz.heap.size wz x3) := Lib.hid ((BZ_2.out.alloc BZ_2.out.size _).trans (hB.mono (Nat.le_trans BZ_2.out.size (by simp))))
         clear hB BZ_2)
      | (go_at_call 11; have hc := BZ_1; clear hc; refine (KR.out _).mono ?_; rintro e x2 ⟨v, rfl, hv, hB⟩
         have BZ_2 : Hid (Below wz.heap.size wz x2) := Lib.hid (BZ_1.out.trans (hB.mono BZ_1.out.size))
         obtain ⟨A, c, rfl, hr⟩ := hv.rd
         have HR := Lib.hid hr
         clear hv hr
         clear hB BZ_1)
      | (go_at_call 13; have hc := BZ_0; clear hc; refine (K6.out _).mono ?_; rintro e x1 ⟨rfl, hB⟩
         have BZ_1 : Hid (Below wz.heap.size wz x1) := Lib.hid (BZ_0.out.trans (hB.mono BZ_0.out.size))
         clear hB BZ_0)
      | ((with_reducible show wpList _ _ _ (⟨some 32, .load 24 (.tmp 1), _, _, _, _⟩ :: _) _ _); refine wpList_load_g (by kernel_rfl) 24 _ rfl (w1.heap.size) (by exact rfl) _ Try.underlying24 (by kernel_rfl) 24 _ _ _ (GRow.below RA_wz.out BZ_0.out RA_wz.out.lt) ?_))
  go_ret
  exact ⟨rfl, BB_wz.out.trans (BZ_5.out.mono BB_wz.out.size)⟩
end Go.Proofs.Yticeeeomhdcffaa
