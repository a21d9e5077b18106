/-
  The law's own same and alike: true, if the program's functions are what they must be. Made by wip/genworldref.py.
-/
import Derived.Test.YtimlhckihkjifaaSw
import Derived.Test.YtimlhckihkjifaaPl
import Derived.Deep.DeepCutAuto
import Derived.Deep.CutBlock
namespace Go.Proofs.Ytimlhckihkjifaa
open Go.RowKit
set_option linter.unusedVariables false
set_option linter.unusedSimpArgs false
/-- What is asked of players beyond PlayerOk: no player of a list that Check refuses; the nil player. -/
structure PlayerNil : Prop where
  bad : ∀ (W : World) (A : Option Addr) (cap B : Nat) (l : List In), Rd W B A l → B ≤ W.heap.size → (chkL l).2 ≠ 0 → l.length ≤ 1000 → Calls Try.prog 9 #[.slice A l.length cap] W fun e w' => e = .returned (.pointer none) ∧ Below W.heap.size W w'
  next : ∀ W : World, Calls Try.prog 11 #[.pointer none] W fun e w' => e = .returned (nv n0) ∧ Below W.heap.size W w'
  cycle : ∀ W : World, Calls Try.prog 13 #[.pointer none] W fun e w' => e = .returned (.int .i64 0) ∧ Below W.heap.size W w'
set_option maxHeartbeats 1000000 in
set_option maxRecDepth 100000 in
theorem same_any (n : Nw) (w : World) : Calls Try.prog 10 #[nv n, nv n] w fun e w' => e = .returned (.bool true) ∧ Below w.heap.size w w' := by
  unfold nv
  go_enter Try.func10, Try.ntmps10
  go_upto_region 1 with (fail)
  refine name_two (Q := fun X => Code.wp _ _ _ _ X) ?_
  intro W0 hq hq2 hB0
  have hq' : Hid (VRow W0 w.heap.size 33 (nc n)) := Lib.hid hq
  have hq2' : Hid (VRow W0 (w.heap.size + 1) 35 (nc n)) := Lib.hid hq2
  have BB_0 := Lib.hid hB0
  clear hq hq2 hB0
  have x0 := VRow.cell hq'.out 0 _ rfl
  have x1 := VRow.cell hq'.out 1 _ rfl
  have x2 := VRow.cell hq'.out 2 _ rfl
  have x3 := VRow.cell hq'.out 3 _ rfl
  have y0 := VRow.cell hq2'.out 0 _ rfl
  have y1 := VRow.cell hq2'.out 1 _ rfl
  have y2 := VRow.cell hq2'.out 2 _ rfl
  have y3 := VRow.cell hq2'.out 3 _ rfl
  obtain ⟨g2, hg2⟩ : ∃ g, w.heap.size + 1 = g := ⟨_, rfl⟩
  rw [hg2] at y0 y1 y2 y3 ⊢
  obtain ⟨g1, hg1⟩ : ∃ g, w.heap.size = g := ⟨_, rfl⟩
  have BB_1 : Hid (Below w.heap.size w W0) := BB_0
  rw [hg1] at x0 x1 x2 x3 ⊢
  clear hg1 hg2 BB_0
  go_wp2_with fail
  go_ret
  exact ⟨rfl, BB_1.out⟩
set_option maxHeartbeats 4000000 in
set_option maxRecDepth 100000 in
theorem alike_any (H : WorldOk) {PL : PlT} (HP : PlayerOk PL) (HN : PlayerNil) (A : Option Addr) (cap B : Nat) (l : List In) (x : In) (c : Int) (w : World) (hr : Rd w B A l) (hB : B ≤ w.heap.size) (hcap : l.length ≤ cap) (hlen : l.length ≤ 1000) (hx : x.ok) (h0 : -9223372036854775808 ≤ c) (h1 : c ≤ 9223372036854775807) :
    Calls Try.prog 8 #[.slice A l.length cap, iv x, .int .i64 c] w fun e w' => e = .returned (.bool true) ∧ Below w.heap.size w w' := by
  have HR := Lib.hid hr
  have HBW := Lib.hid hB
  have C1 := Lib.hid (H.check A cap B l)
  have C2 := Lib.hid (rCheck_any A cap B l)
  have S1 := Lib.hid (fun W h h2 => H.set.weak (A := A) (cap := cap) (B := B) (l := l) (x := x) (W := W) h h2 hcap hlen hx)
  have S2 := Lib.hid (fun W h h2 => rSet_any A cap B l x W h h2 hlen hx)
  have A1 := Lib.hid (fun W h h2 => H.at_ A cap B l c W h h2 hcap h0 h1)
  have A2 := Lib.hid (fun W h h2 => rAt_any A cap B l c W h h2 h0 h1)
  have U1 := Lib.hid (fun W h h2 => H.upto A cap B l c W h h2 hlen h0 h1)
  have U2 := Lib.hid (fun W h h2 => rUpto_any A cap B l c W h h2 hlen h0 h1)
  have N1 : Hid ((chkL l).2 = 0 → ∀ W : World, Rd W B A l → B ≤ W.heap.size → Calls Try.prog 9 #[.slice A l.length cap] W fun e w' => (∃ a, e = .returned (.pointer (some a))) ∧ Below W.heap.size W w') := Lib.hid (fun h W h1 h2 => (HP.new W _ A cap l (h1.toS h2) h hlen).mono fun e w' q => ⟨⟨_, q.1.choose_spec.choose_spec.choose_spec.1⟩, q.2⟩)
  have N2 : Hid ((chkL l).2 ≠ 0 → ∀ W : World, Rd W B A l → B ≤ W.heap.size → Calls Try.prog 9 #[.slice A l.length cap] W fun e w' => e = .returned (.pointer none) ∧ Below W.heap.size W w') := Lib.hid (fun h W h1 h2 => HN.bad W A cap B l h1 h2 h hlen)
  obtain ⟨ci, hci⟩ : ∃ z, (chkL l).1 = z := ⟨_, rfl⟩
  obtain ⟨ce, hce⟩ : ∃ z, (chkL l).2 = z := ⟨_, rfl⟩
  rw [hci, hce] at C1 C2
  rw [hce] at N1 N2
  obtain ⟨sl, hsl⟩ : ∃ z, setR l x = z := ⟨_, rfl⟩
  obtain ⟨se, hse⟩ : ∃ z, setE l x = z := ⟨_, rfl⟩
  rw [hsl, hse] at S1 S2
  obtain ⟨n, hn⟩ : ∃ z, atL l c = z := ⟨_, rfl⟩
  rw [hn] at A1 A2
  obtain ⟨ul, hul⟩ : ∃ z, uptoL l c = z := ⟨_, rfl⟩
  rw [hul] at U1 U2
  have KS := Lib.hid (same_any n)
  clear hr hB hcap hci hce hsl hse hn hul
  have HX : Hid (Go.IntKind.i64.wrap 0 = 0) := Lib.hid rfl
  unfold iv
  go_enter Try.func8, Try.ntmps8
  go_upto_region 1 with (fail)
  refine name_one (Q := fun X => Code.wp _ _ _ _ X) ?_
  intro w0 hq hB0 hz
  have RX_0 : Hid (IRow w0 w.heap.size x) := Lib.hid hq
  have BB_0 := Lib.hid hB0
  have RL_0 := Lib.hid (HR.out.below hB0 HBW.out)
  have SL_0 := Lib.hid (Nat.le_trans HBW.out hB0.size)
  obtain ⟨gx, hgx⟩ : ∃ g, w.heap.size = g := ⟨_, rfl⟩
  rw [hgx] at RX_0 ⊢
  clear hq hB0 hz hgx HR HBW
  by_cases hce : ce = 0
  · have NN := Lib.hid (N1.out hce)
    have e0 : ((ce : Nat) : Int) = 0 := by omega
    have e1 : ((ce : Int) == 0) = true := by simpa using hce
    have e2 : ((ce : Int) != 0) = false := by simpa using hce
    clear N1 N2
    clear e0 hce
    go_wp2_with (first
      | (go_at_call 9; have hc := BB_11; clear hc; refine (NN.out _ RL_11.out SL_11.out).mono ?_; rintro e w12 ⟨⟨na, rfl⟩, hB⟩; have BB_12 := Lib.hid (BB_11.out.trans (hB.mono BB_11.out.size)); have RL_12 := Lib.hid (RL_11.out.below hB SL_11.out); have SL_12 := Lib.hid (Nat.le_trans SL_11.out hB.size); clear hB BB_11 RL_11 SL_11)
      | (go_at_call 14; have hc := BB_10; clear hc; refine (rSame_any uA vA ucap vcap w10.heap.size ul w10 (RU_10.out.mono SU_10.out) (RV_10.out.mono SV_10.out) (Nat.le_refl _)).mono ?_; rintro e w11 ⟨rfl, hB⟩; have BB_11 := Lib.hid (BB_10.out.trans (hB.mono BB_10.out.size)); have RL_11 := Lib.hid (RL_10.out.below hB SL_10.out); have SL_11 := Lib.hid (Nat.le_trans SL_10.out hB.size); clear hB BB_10 RL_10 SL_10 RU_10 SU_10 RV_10 SV_10)
      | (go_at_call 24; have hc := BB_9; clear hc; refine (U2.out _ RL_9.out SL_9.out).mono ?_; rintro e w10 ⟨⟨vA, vcap, rfl, hnew⟩, hB⟩; have BB_10 := Lib.hid (BB_9.out.trans (hB.mono BB_9.out.size)); have RL_10 := Lib.hid (RL_9.out.below hB SL_9.out); have SL_10 := Lib.hid (Nat.le_trans SL_9.out hB.size); have RU_10 := Lib.hid (RU_9.out.below hB SU_9.out); have SU_10 := Lib.hid (Nat.le_trans SU_9.out hB.size); have RV_10 := Lib.hid hnew; have SV_10 : Hid (w10.heap.size ≤ w10.heap.size) := Lib.hid (Nat.le_refl _); clear hnew; clear hB BB_9 RL_9 SL_9 RU_9 SU_9)
      | (go_at_call 19; have hc := BB_8; clear hc; refine (U1.out _ RL_8.out SL_8.out).mono ?_; rintro e w9 ⟨⟨uA, ucap, rfl, hnew⟩, hB⟩; have BB_9 := Lib.hid (BB_8.out.trans (hB.mono BB_8.out.size)); have RL_9 := Lib.hid (RL_8.out.below hB SL_8.out); have SL_9 := Lib.hid (Nat.le_trans SL_8.out hB.size); have RU_9 := Lib.hid hnew; have SU_9 : Hid (w9.heap.size ≤ w9.heap.size) := Lib.hid (Nat.le_refl _); clear hnew; clear hB BB_8 RL_8 SL_8)
      | (go_at_call 10; have hc := BB_7; clear hc; refine (KS.out _).mono ?_; rintro e w8 ⟨rfl, hB⟩; have BB_8 := Lib.hid (BB_7.out.trans (hB.mono BB_7.out.size)); have RL_8 := Lib.hid (RL_7.out.below hB SL_7.out); have SL_8 := Lib.hid (Nat.le_trans SL_7.out hB.size); clear hB BB_7 RL_7 SL_7)
      | (go_at_call 12; have hc := BB_6; clear hc; refine (A2.out _ RL_6.out SL_6.out).mono ?_; rintro e w7 ⟨rfl, hB⟩; have BB_7 := Lib.hid (BB_6.out.trans (hB.mono BB_6.out.size)); have RL_7 := Lib.hid (RL_6.out.below hB SL_6.out); have SL_7 := Lib.hid (Nat.le_trans SL_6.out hB.size); clear hB BB_6 RL_6 SL_6)
      | (go_at_call 18; have hc := BB_5; clear hc; refine (A1.out _ RL_5.out SL_5.out).mono ?_; rintro e w6 ⟨rfl, hB⟩; have BB_6 := Lib.hid (BB_5.out.trans (hB.mono BB_5.out.size)); have RL_6 := Lib.hid (RL_5.out.below hB SL_5.out); have SL_6 := Lib.hid (Nat.le_trans SL_5.out hB.size); clear hB BB_5 RL_5 SL_5)
      | (go_at_call 14; have hc := BB_4; clear hc; refine (rSame_any aA bA acap bcap w4.heap.size sl w4 (RA_4.out.mono SA_4.out) (RB_4.out.mono SB_4.out) (Nat.le_refl _)).mono ?_; rintro e w5 ⟨rfl, hB⟩; have BB_5 := Lib.hid (BB_4.out.trans (hB.mono BB_4.out.size)); have RL_5 := Lib.hid (RL_4.out.below hB SL_4.out); have SL_5 := Lib.hid (Nat.le_trans SL_4.out hB.size); clear hB BB_4 RX_4 RL_4 SL_4 RA_4 SA_4 RB_4 SB_4)
      | (go_at_call 23; have hc := BB_3; clear hc; refine (S2.out _ RL_3.out SL_3.out).mono ?_; rintro e w4 ⟨⟨bA, bcap, rfl, hnew⟩, hB⟩; have BB_4 := Lib.hid (BB_3.out.trans (hB.mono BB_3.out.size)); have RX_4 := Lib.hid (IRow.below RX_3.out hB RX_3.out.lt); have RL_4 := Lib.hid (RL_3.out.below hB SL_3.out); have SL_4 := Lib.hid (Nat.le_trans SL_3.out hB.size); have RA_4 := Lib.hid (RA_3.out.below hB SA_3.out); have SA_4 := Lib.hid (Nat.le_trans SA_3.out hB.size); have RB_4 := Lib.hid hnew; have SB_4 : Hid (w4.heap.size ≤ w4.heap.size) := Lib.hid (Nat.le_refl _); clear hnew; clear hB BB_3 RX_3 RL_3 SL_3 RA_3 SA_3)
      | (go_at_call 16; have hc := BB_2; clear hc; refine (S1.out _ RL_2.out SL_2.out).mono ?_; rintro e w3 ⟨⟨aA, acap, rfl, hnew⟩, hB⟩; have BB_3 := Lib.hid (BB_2.out.trans (hB.mono BB_2.out.size)); have RX_3 := Lib.hid (IRow.below RX_2.out hB RX_2.out.lt); have RL_3 := Lib.hid (RL_2.out.below hB SL_2.out); have SL_3 := Lib.hid (Nat.le_trans SL_2.out hB.size); have RA_3 := Lib.hid hnew; have SA_3 : Hid (w3.heap.size ≤ w3.heap.size) := Lib.hid (Nat.le_refl _); clear hnew; clear hB BB_2 RX_2 RL_2 SL_2)
      | (go_at_call 22; have hc := BB_1; clear hc; refine (C2.out _ RL_1.out SL_1.out).mono ?_; rintro e w2 ⟨rfl, hB⟩; have BB_2 := Lib.hid (BB_1.out.trans (hB.mono BB_1.out.size)); have RX_2 := Lib.hid (IRow.below RX_1.out hB RX_1.out.lt); have RL_2 := Lib.hid (RL_1.out.below hB SL_1.out); have SL_2 := Lib.hid (Nat.le_trans SL_1.out hB.size); clear hB BB_1 RX_1 RL_1 SL_1)
      | (go_at_call 17; have hc := BB_0; clear hc; refine (C1.out _ RL_0.out SL_0.out).mono ?_; rintro e w1 ⟨rfl, hB⟩; have BB_1 := Lib.hid (BB_0.out.trans (hB.mono BB_0.out.size)); have RX_1 := Lib.hid (IRow.below RX_0.out hB RX_0.out.lt); have RL_1 := Lib.hid (RL_0.out.below hB SL_0.out); have SL_1 := Lib.hid (Nat.le_trans SL_0.out hB.size); clear hB BB_0 RX_0 RL_0 SL_0)
      | ((with_reducible show wpList _ _ _ (⟨some 27, .load 25 (.tmp 4), _, _, _, _⟩ :: _) _ _); refine wpList_load_v (by rfl) 25 _ rfl gx (by exact rfl) _ Try.underlying25 25 ([.int .i64 x.a, .int .i64 x.k, .int .u8 (x.v : Int)]) RX_2.out (by kernel_rfl) ?_)
      | ((with_reducible show wpList _ _ _ (⟨some 33, .load 25 (.tmp 4), _, _, _, _⟩ :: _) _ _); refine wpList_load_v (by rfl) 25 _ rfl gx (by exact rfl) _ Try.underlying25 25 ([.int .i64 x.a, .int .i64 x.k, .int .u8 (x.v : Int)]) RX_3.out (by kernel_rfl) ?_))
    go_ret
    exact ⟨rfl, BB_12.out⟩
  · have NN := Lib.hid (N2.out hce)
    have e1 : ((ce : Int) == 0) = false := by simpa using hce
    have e2 : ((ce : Int) != 0) = true := by simpa using hce
    clear N1 N2
    clear hce
    go_wp2_with (first
      | (go_at_call 9; have hc := BB_11; clear hc; refine (NN.out _ RL_11.out SL_11.out).mono ?_; rintro e w12 ⟨rfl, hB⟩; have BB_12 := Lib.hid (BB_11.out.trans (hB.mono BB_11.out.size)); have RL_12 := Lib.hid (RL_11.out.below hB SL_11.out); have SL_12 := Lib.hid (Nat.le_trans SL_11.out hB.size); clear hB BB_11 RL_11 SL_11)
      | (go_at_call 14; have hc := BB_10; clear hc; refine (rSame_any uA vA ucap vcap w10.heap.size ul w10 (RU_10.out.mono SU_10.out) (RV_10.out.mono SV_10.out) (Nat.le_refl _)).mono ?_; rintro e w11 ⟨rfl, hB⟩; have BB_11 := Lib.hid (BB_10.out.trans (hB.mono BB_10.out.size)); have RL_11 := Lib.hid (RL_10.out.below hB SL_10.out); have SL_11 := Lib.hid (Nat.le_trans SL_10.out hB.size); clear hB BB_10 RL_10 SL_10 RU_10 SU_10 RV_10 SV_10)
      | (go_at_call 24; have hc := BB_9; clear hc; refine (U2.out _ RL_9.out SL_9.out).mono ?_; rintro e w10 ⟨⟨vA, vcap, rfl, hnew⟩, hB⟩; have BB_10 := Lib.hid (BB_9.out.trans (hB.mono BB_9.out.size)); have RL_10 := Lib.hid (RL_9.out.below hB SL_9.out); have SL_10 := Lib.hid (Nat.le_trans SL_9.out hB.size); have RU_10 := Lib.hid (RU_9.out.below hB SU_9.out); have SU_10 := Lib.hid (Nat.le_trans SU_9.out hB.size); have RV_10 := Lib.hid hnew; have SV_10 : Hid (w10.heap.size ≤ w10.heap.size) := Lib.hid (Nat.le_refl _); clear hnew; clear hB BB_9 RL_9 SL_9 RU_9 SU_9)
      | (go_at_call 19; have hc := BB_8; clear hc; refine (U1.out _ RL_8.out SL_8.out).mono ?_; rintro e w9 ⟨⟨uA, ucap, rfl, hnew⟩, hB⟩; have BB_9 := Lib.hid (BB_8.out.trans (hB.mono BB_8.out.size)); have RL_9 := Lib.hid (RL_8.out.below hB SL_8.out); have SL_9 := Lib.hid (Nat.le_trans SL_8.out hB.size); have RU_9 := Lib.hid hnew; have SU_9 : Hid (w9.heap.size ≤ w9.heap.size) := Lib.hid (Nat.le_refl _); clear hnew; clear hB BB_8 RL_8 SL_8)
      | (go_at_call 10; have hc := BB_7; clear hc; refine (KS.out _).mono ?_; rintro e w8 ⟨rfl, hB⟩; have BB_8 := Lib.hid (BB_7.out.trans (hB.mono BB_7.out.size)); have RL_8 := Lib.hid (RL_7.out.below hB SL_7.out); have SL_8 := Lib.hid (Nat.le_trans SL_7.out hB.size); clear hB BB_7 RL_7 SL_7)
      | (go_at_call 12; have hc := BB_6; clear hc; refine (A2.out _ RL_6.out SL_6.out).mono ?_; rintro e w7 ⟨rfl, hB⟩; have BB_7 := Lib.hid (BB_6.out.trans (hB.mono BB_6.out.size)); have RL_7 := Lib.hid (RL_6.out.below hB SL_6.out); have SL_7 := Lib.hid (Nat.le_trans SL_6.out hB.size); clear hB BB_6 RL_6 SL_6)
      | (go_at_call 18; have hc := BB_5; clear hc; refine (A1.out _ RL_5.out SL_5.out).mono ?_; rintro e w6 ⟨rfl, hB⟩; have BB_6 := Lib.hid (BB_5.out.trans (hB.mono BB_5.out.size)); have RL_6 := Lib.hid (RL_5.out.below hB SL_5.out); have SL_6 := Lib.hid (Nat.le_trans SL_5.out hB.size); clear hB BB_5 RL_5 SL_5)
      | (go_at_call 14; have hc := BB_4; clear hc; refine (rSame_any aA bA acap bcap w4.heap.size sl w4 (RA_4.out.mono SA_4.out) (RB_4.out.mono SB_4.out) (Nat.le_refl _)).mono ?_; rintro e w5 ⟨rfl, hB⟩; have BB_5 := Lib.hid (BB_4.out.trans (hB.mono BB_4.out.size)); have RL_5 := Lib.hid (RL_4.out.below hB SL_4.out); have SL_5 := Lib.hid (Nat.le_trans SL_4.out hB.size); clear hB BB_4 RX_4 RL_4 SL_4 RA_4 SA_4 RB_4 SB_4)
      | (go_at_call 23; have hc := BB_3; clear hc; refine (S2.out _ RL_3.out SL_3.out).mono ?_; rintro e w4 ⟨⟨bA, bcap, rfl, hnew⟩, hB⟩; have BB_4 := Lib.hid (BB_3.out.trans (hB.mono BB_3.out.size)); have RX_4 := Lib.hid (IRow.below RX_3.out hB RX_3.out.lt); have RL_4 := Lib.hid (RL_3.out.below hB SL_3.out); have SL_4 := Lib.hid (Nat.le_trans SL_3.out hB.size); have RA_4 := Lib.hid (RA_3.out.below hB SA_3.out); have SA_4 := Lib.hid (Nat.le_trans SA_3.out hB.size); have RB_4 := Lib.hid hnew; have SB_4 : Hid (w4.heap.size ≤ w4.heap.size) := Lib.hid (Nat.le_refl _); clear hnew; clear hB BB_3 RX_3 RL_3 SL_3 RA_3 SA_3)
      | (go_at_call 16; have hc := BB_2; clear hc; refine (S1.out _ RL_2.out SL_2.out).mono ?_; rintro e w3 ⟨⟨aA, acap, rfl, hnew⟩, hB⟩; have BB_3 := Lib.hid (BB_2.out.trans (hB.mono BB_2.out.size)); have RX_3 := Lib.hid (IRow.below RX_2.out hB RX_2.out.lt); have RL_3 := Lib.hid (RL_2.out.below hB SL_2.out); have SL_3 := Lib.hid (Nat.le_trans SL_2.out hB.size); have RA_3 := Lib.hid hnew; have SA_3 : Hid (w3.heap.size ≤ w3.heap.size) := Lib.hid (Nat.le_refl _); clear hnew; clear hB BB_2 RX_2 RL_2 SL_2)
      | (go_at_call 22; have hc := BB_1; clear hc; refine (C2.out _ RL_1.out SL_1.out).mono ?_; rintro e w2 ⟨rfl, hB⟩; have BB_2 := Lib.hid (BB_1.out.trans (hB.mono BB_1.out.size)); have RX_2 := Lib.hid (IRow.below RX_1.out hB RX_1.out.lt); have RL_2 := Lib.hid (RL_1.out.below hB SL_1.out); have SL_2 := Lib.hid (Nat.le_trans SL_1.out hB.size); clear hB BB_1 RX_1 RL_1 SL_1)
      | (go_at_call 17; have hc := BB_0; clear hc; refine (C1.out _ RL_0.out SL_0.out).mono ?_; rintro e w1 ⟨rfl, hB⟩; have BB_1 := Lib.hid (BB_0.out.trans (hB.mono BB_0.out.size)); have RX_1 := Lib.hid (IRow.below RX_0.out hB RX_0.out.lt); have RL_1 := Lib.hid (RL_0.out.below hB SL_0.out); have SL_1 := Lib.hid (Nat.le_trans SL_0.out hB.size); clear hB BB_0 RX_0 RL_0 SL_0)
      | ((with_reducible show wpList _ _ _ (⟨some 27, .load 25 (.tmp 4), _, _, _, _⟩ :: _) _ _); refine wpList_load_v (by rfl) 25 _ rfl gx (by exact rfl) _ Try.underlying25 25 ([.int .i64 x.a, .int .i64 x.k, .int .u8 (x.v : Int)]) RX_2.out (by kernel_rfl) ?_)
      | ((with_reducible show wpList _ _ _ (⟨some 33, .load 25 (.tmp 4), _, _, _, _⟩ :: _) _ _); refine wpList_load_v (by rfl) 25 _ rfl gx (by exact rfl) _ Try.underlying25 25 ([.int .i64 x.a, .int .i64 x.k, .int .u8 (x.v : Int)]) RX_3.out (by kernel_rfl) ?_))
    go_ret
    exact ⟨rfl, BB_12.out⟩
end Go.Proofs.Ytimlhckihkjifaa
