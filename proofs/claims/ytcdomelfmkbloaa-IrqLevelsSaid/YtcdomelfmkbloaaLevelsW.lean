/-
  IrqLevels' walk, if the program's functions are what they must be: true. Made by wip/genirqlevels.py.
-/
import Derived.Test.YtcdomelfmkbloaaFill
namespace Go.Proofs.Ytcdomelfmkbloaa
open Go.RowKit
set_option linter.unusedVariables false
set_option maxHeartbeats 8000000 in
set_option maxRecDepth 100000 in
theorem levels_walk (H : IrqOk) (c : Ic) (rs : List Nat) (mk : Nat) (w : World) (h : c.ok) (hr : RawOk rs) (hm : mk < 256) :
    Calls Try.prog 5 #[cv c, rawv rs, .int .u8 (mk : Int)] w fun x w' => x = .returned (.bool true) ∧ Below w.heap.size w w' := by
  have KW := Lib.hid (works_any H)
  have HR := Lib.hid hr
  have HC := Lib.hid h
  unfold cv rawv
  go_enter Try.func5, Try.ntmps5
  go_upto_region 1 with (fail)
  refine name_two (Q := fun X => Code.wp _ _ _ _ X) ?_
  intro w0 hq1 hq2 hB0
  have RC_w0 : Hid (CRow w0 w.heap.size 23 c) := Lib.hid hq1
  have RW_w0 : Hid (VRow w0 (w.heap.size + 1) 30 (rawc rs)) := Lib.hid hq2
  have BB_w0 := Lib.hid hB0
  clear hq1 hq2 hB0
  obtain ⟨gc, hgc⟩ : ∃ g, w.heap.size = g := ⟨_, rfl⟩
  obtain ⟨gw, hgw⟩ : ∃ g, w.heap.size + 1 = g := ⟨_, rfl⟩
  rw [hgw] at RW_w0 ⊢
  rw [hgc] at RC_w0 ⊢
  clear hgc hgw
  go_upto_region 3 with (first
      | (go_at_call 7; have hc := BB_w0; clear hc; (with_reducible refine (KW.out _).mono ?_); rintro e w1 ⟨rfl, hB⟩
         have RC_w1 : Hid (CRow w1 (gc) 23 (c)) := Lib.hid (CRow.below RC_w0.out hB RC_w0.out.lt)
         have RW_w1 : Hid (VRow w1 (gw) 30 (rawc rs)) := Lib.hid (VRow.below RW_w0.out hB RW_w0.out.lt)
         have BB_w1 : Hid (Below w.heap.size w w1) := Lib.hid (BB_w0.out.trans (hB.mono BB_w0.out.size))
         clear hB RC_w0 RW_w0 BB_w0))
  go_upto_region 4 with fail
  have RC_w2 : Hid (CRow _ gc 23 c) := Lib.hid (RC_w1.out.below ((Below.refl _ _).alloc (Nat.le_refl _) (.cells (psc zeros8).toArray 24)) RC_w1.out.lt)
  have RW_w2 : Hid (VRow _ gw 30 (rawc rs)) := Lib.hid (RW_w1.out.below ((Below.refl _ _).alloc (Nat.le_refl _) (.cells (psc zeros8).toArray 24)) RW_w1.out.lt)
  have RP_w2 : Hid (PRow _ w1.heap.size zeros8) := Lib.hid (alloc_at w1 (.cells (psc zeros8).toArray 24))
  have BB_w2 := Lib.hid (BB_w1.out.alloc BB_w1.out.size (.cells (psc zeros8).toArray 24))
  have LEV := BB_w1.out.size
  have NEC := Nat.ne_of_lt RC_w1.out.lt
  have NEW := Nat.ne_of_lt RW_w1.out.lt
  obtain ⟨w2, hw2⟩ : ∃ W, W = w1.alloc (.cells (psc zeros8).toArray 24) := ⟨_, rfl⟩
  rw [← hw2] at RC_w2 RW_w2 RP_w2 BB_w2
  have hw2' : w1.alloc (.cells #[.int .i64 0, .int .i64 0, .int .i64 0, .int .i64 0, .int .i64 0, .int .i64 0, .int .i64 0, .int .i64 0] 24) = w2 := hw2.symm
  rw [hw2']
  clear hw2 hw2' RC_w1 RW_w1 BB_w1
  generalize w1.heap.size = gp at *
  have LE_RP := Lib.hid LEV
  have NE_RC_RP := Lib.hid NEC
  have NE_RW_RP := Lib.hid NEW
  clear LEV NEC NEW
  go_wp2_with fail
  go_loopw [8] (fun iv wr => ∃ k : Nat, k ≤ 8 ∧ iv = .int .i64 (k : Int) ∧ CRow wr gc 23 c ∧ VRow wr gw 30 (rawc rs) ∧ PRow wr gp (fillK rs k) ∧ Below w.heap.size w wr) (fun iv _ => 8 - (intOf iv).toNat)
  case atStart => exact ⟨0, by omega, rfl, RC_w2.out, RW_w2.out, RP_w2.out, BB_w2.out⟩
  case round =>
    clear RC_w2 RW_w2 RP_w2 BB_w2
    obtain ⟨k, hk, rfl, q1, q2, q3, q4⟩ := hrel
    have RC_wr := Lib.hid q1
    have RW_wr := Lib.hid q2
    have RP_wr := Lib.hid q3
    have BB_wr := Lib.hid q4
    by_cases hlt : k < 8
    · have d1 : (k : Int) < 8 := by omega
      have hI1 := fun W => run_index_raw gw k W hlt
      have hI2 := fun W => run_index_eight gp k W hlt
      have cp := raw_at q2 HR.out k hlt
      have hx8 := HR.out.raw k
      have OKK := Lib.hid (fill_all rs k).1
      obtain ⟨x, hx⟩ : ∃ x, raw rs k = x := ⟨_, rfl⟩
      rw [hx] at cp hx8
      obtain ⟨y, hy, hy2, hy3⟩ : ∃ y : Nat, (x : Int) % 8 = (y : Int) ∧ (x : Int).tmod 8 = (y : Int) ∧ x % 8 = y := ⟨x % 8, by omega, by rw [Int.tmod_eq_emod_of_nonneg (by omega)]; omega, rfl⟩
      have hy4 : y < 8 := by omega
      have HS : Hid (fillK rs (k + 1) = (fillK rs k).set k (y : Int)) := Lib.hid (by rw [fillK, hx, hy3])
      have HK := Lib.hid hlt
      clear q1 q2 q3 q4 hx hlt hy3
      go_wp2_with ((with_reducible show wpList _ _ _ (⟨none, .store 3 (.tmp 27) (.tmp 26), _, _, _, _⟩ :: _) _ _); refine wpList_store_pj rfl 3 _ _ rfl gp k (by exact rfl) (y : Int) (by exact rfl) (by kernel_rfl) OKK.out RP_wr.out HK.out ?_; intro wz HN1 HO HB)
      go_roundw
      case rel => exact ⟨k + 1, by omega, by go_num, RC_wr.out.other HO.out NE_RC_RP.out, VRow.other RW_wr.out HO.out NE_RW_RP.out, by rw [HS.out]; exact HN1.out, BB_wr.out.trans (HB.out.mono LE_RP.out)⟩
      case measure =>
        simp [intOf]
        omega
    · obtain rfl : k = 8 := by omega
      clear q1 q2 q3 q4 hlt RW_wr NE_RW_RP
      have OK_RP := Lib.hid (fill_all rs 8).1
      have hpr := fill_prio rs 8
      generalize fillK rs 8 = ps at *
      have KC := Lib.hid (fun W => H.choose c ps 0 0 mk W HC.out OK_RP.out (by decide) (by decide) (by decide) (by decide) hm)
      have hrg := chooseI_range c ps 0 0 mk
      obtain ⟨b, hbest⟩ : ∃ b, chooseI c ps 0 0 mk = b := ⟨_, rfl⟩
      rw [hbest] at KC hrg
      have KN := Lib.hid (fun (lev : Int) (wt : Int) (W : World) (e : chooseI c ps lev 0 mk = wt) (h0 : 0 ≤ lev) (h1 : lev < 9) => by
        have h2 := chosen_any H c ps lev 0 mk wt W HC.out OK_RP.out (by omega) (by omega) (by decide) (by decide) hm
        rw [decide_eq_true e] at h2
        exact h2)
      have c2ok : Ic.ok ⟨c.m &&& (255 - mk), c.p⟩ := ⟨and_lt256 _ _ HC.out.m, HC.out.p⟩
      have KN2 := Lib.hid (fun (lev : Int) (wt : Int) (W : World) (e : chooseI c ps lev 0 mk = wt) (h0 : 0 ≤ lev) (h1 : lev < 9) => by
        have h2 := chosen_any H ⟨c.m &&& (255 - mk), c.p⟩ ps lev 0 0 wt W c2ok OK_RP.out (by omega) (by omega) (by decide) (by decide) (by decide)
        rw [decide_eq_true ((choose_mask c ps lev mk hm).trans e)] at h2
        exact h2)
      have c3ok : Ic.ok ⟨255, (c.p &&& c.m) &&& (255 - mk)⟩ := ⟨by show (255 : Nat) < 256; decide, and_lt256 _ _ (and_lt256 _ _ HC.out.p)⟩
      have KN3 := Lib.hid (fun (lev : Int) (wt : Int) (W : World) (e : chooseI c ps lev 0 mk = wt) (h0 : 0 ≤ lev) (h1 : lev < 9) => by
        have h2 := chosen_any H ⟨255, (c.p &&& c.m) &&& (255 - mk)⟩ ps lev 0 0 wt W c3ok OK_RP.out (by omega) (by omega) (by decide) (by decide) (by decide)
        rw [decide_eq_true ((choose_pend c ps lev mk hm).trans e)] at h2
        exact h2)
      have HN1 := Lib.hid (u8_andNot_nat c.m mk HC.out.m hm)
      have HA := Lib.hid (u8_and_nat c.p c.m HC.out.p HC.out.m)
      have HN2 := Lib.hid (u8_andNot_nat (c.p &&& c.m) mk (and_lt256 _ _ HC.out.p) hm)
      have HLV := Lib.hid (choose_level c ps mk)
      rw [hbest] at HLV
      have HBEST := Lib.hid hbest
      have HOT := Lib.hid (fun (m v : Nat) (hmm : b = (m : Int)) (hv : v < 8) (hne : v ≠ m) => choose_other c ps mk m v OK_RP.out.len (HBEST.out.trans hmm) hv hne)
      clear hbest
      by_cases hb : 0 ≤ b
      · obtain ⟨m, rfl⟩ : ∃ m : Nat, b = (m : Int) := ⟨b.toNat, by omega⟩
        have hm8 : m < 8 := by omega
        have hdb : decide (0 ≤ (m : Int)) = true := decide_eq_true hb
        have pm := hpr m
        have pmb := OK_RP.out.prio m
        obtain ⟨q, hq⟩ : ∃ q, prio ps m = q := ⟨_, rfl⟩
        rw [hq] at pm pmb
        have HQ := Lib.hid hq
        clear hq
        rw [hdb] at KC
        go_wp2_with (first
      | (go_at_call 10; have hc := BB_wr; clear hc; (with_reducible refine (KC.out _).mono ?_); rintro e w3 ⟨rfl, hB⟩
         have RC_w3 : Hid (CRow w3 (gc) 23 (c)) := Lib.hid (CRow.below RC_wr.out hB RC_wr.out.lt)
         have RP_w3 : Hid (PRow w3 (gp) (ps)) := Lib.hid (PRow.below RP_wr.out hB RP_wr.out.lt)
         have BB_w3 : Hid (Below w.heap.size w w3) := Lib.hid (BB_wr.out.trans (hB.mono BB_wr.out.size))
         clear hB RC_wr RP_wr BB_wr)
      | ((with_reducible show wpList _ _ _ (⟨some 30, .load 24 (.tmp 7), _, _, _, _⟩ :: _) _ _); refine wpList_load_p (by rfl) 24 _ rfl (gp) (by exact rfl) _ _ Try.underlying24 (by kernel_rfl) OK_RP.out RP_wr.out ?_)
      | ((with_reducible show wpList _ _ _ (⟨some 29, .load 23 (.tmp 3), _, _, _, _⟩ :: _) _ _); refine wpList_load_c (by rfl) 23 _ rfl (gc) (by exact rfl) _ Try.underlying23 (by kernel_rfl) 23 RC_wr.out ?_))
        clear KC
        clear hrg
        go_loopw [11] (fun iv wx => ∃ j : Nat, j ≤ 9 ∧ iv = .int .i64 (j : Int) ∧ CRow wx gc 23 c ∧ PRow wx gp ps ∧ Below w.heap.size w wx) (fun iv _ => 9 - (intOf iv).toNat)
        case atStart => exact ⟨0, by omega, rfl, RC_w3.out, RP_w3.out, BB_w3.out⟩
        case round =>
          clear RC_w3 RP_w3 BB_w3
          obtain ⟨j, hj, rfl, q1, q2, q5⟩ := hrel
          have RC_v := Lib.hid q1
          have RP_v := Lib.hid q2
          have BB_v := Lib.hid q5
          by_cases hlt : j < 9
          · have d1 : (j : Int) < 9 := by omega
            have HJ := Lib.hid hlt
            have z0 := q1.c0
            have z1 := q1.c1
            have hI := fun W => run_index_eight gp m W hm8
            have cm := q2.at OK_RP.out m hm8
            rw [HQ.out] at cm
            clear q1 q2 q5 hlt
            by_cases hjq : (j : Int) < q
            · skip
              have hwt : chooseI c ps (j : Int) 0 mk = (m : Int) := by rw [HLV.out _ (by omega), show ((m : Nat) : Int).toNat = m from by omega, HQ.out]; exact if_pos ⟨by omega, hjq⟩
              have L1 := Lib.hid (fun W => KN.out (j : Int) ((m : Int)) W hwt (by omega) (by omega))
              have L2 : Hid (∀ W : World, Calls Try.prog 13 #[.agg #[.int .u8 ((c.m &&& (255 - mk) : Nat) : Int), .int .u8 (c.p : Int)], pv ps, .int .i64 (j : Int), .int .i64 0, .int .u8 0, .int .i64 ((m : Int))] W fun x w' => x = .returned (.bool true) ∧ Below W.heap.size W w') := Lib.hid (fun W => KN2.out (j : Int) ((m : Int)) W hwt (by omega) (by omega))
              have L3 : Hid (∀ W : World, Calls Try.prog 13 #[.agg #[.int .u8 255, .int .u8 (((c.p &&& c.m) &&& (255 - mk) : Nat) : Int)], pv ps, .int .i64 (j : Int), .int .i64 0, .int .u8 0, .int .i64 ((m : Int))] W fun x w' => x = .returned (.bool true) ∧ Below W.heap.size W w') := Lib.hid (fun W => KN3.out (j : Int) ((m : Int)) W hwt (by omega) (by omega))
              clear hwt
              go_wp2_with (first
      | (go_at_call 13; have hc := BB_v2; clear hc; rw [HA.out, HN2.out]; (with_reducible refine (L3.out _).mono ?_); rintro e v3 ⟨rfl, hB⟩
         have RC_v3 : Hid (CRow v3 (gc) 23 (c)) := Lib.hid (CRow.below RC_v2.out hB RC_v2.out.lt)
         have RP_v3 : Hid (PRow v3 (gp) (ps)) := Lib.hid (PRow.below RP_v2.out hB RP_v2.out.lt)
         have BB_v3 : Hid (Below w.heap.size w v3) := Lib.hid (BB_v2.out.trans (hB.mono BB_v2.out.size))
         clear z0 z1
         clear hB RC_v2 RP_v2 BB_v2)
      | ((with_reducible show wpList _ _ _ (⟨some 78, .load 24 (.tmp 7), _, _, _, _⟩ :: _) _ _); refine wpList_load_p (by kernel_rfl) 24 _ rfl (gp) (by exact rfl) _ _ Try.underlying24 (by kernel_rfl) OK_RP.out RP_v2.out ?_)
      | (go_at_call 13; have hc := BB_v1; clear hc; rw [HN1.out]; (with_reducible refine (L2.out _).mono ?_); rintro e v2 ⟨rfl, hB⟩
         have RC_v2 : Hid (CRow v2 (gc) 23 (c)) := Lib.hid (CRow.below RC_v1.out hB RC_v1.out.lt)
         have RP_v2 : Hid (PRow v2 (gp) (ps)) := Lib.hid (PRow.below RP_v1.out hB RP_v1.out.lt)
         have BB_v2 : Hid (Below w.heap.size w v2) := Lib.hid (BB_v1.out.trans (hB.mono BB_v1.out.size))
         clear z0 z1
         have z0 := RC_v2.out.c0
         have z1 := RC_v2.out.c1
         clear hB RC_v1 RP_v1 BB_v1)
      | ((with_reducible show wpList _ _ _ (⟨some 63, .load 24 (.tmp 7), _, _, _, _⟩ :: _) _ _); refine wpList_load_p (by kernel_rfl) 24 _ rfl (gp) (by exact rfl) _ _ Try.underlying24 (by kernel_rfl) OK_RP.out RP_v1.out ?_)
      | (go_at_call 13; have hc := BB_v; clear hc; (with_reducible refine (L1.out _).mono ?_); rintro e v1 ⟨rfl, hB⟩
         have RC_v1 : Hid (CRow v1 (gc) 23 (c)) := Lib.hid (CRow.below RC_v.out hB RC_v.out.lt)
         have RP_v1 : Hid (PRow v1 (gp) (ps)) := Lib.hid (PRow.below RP_v.out hB RP_v.out.lt)
         have BB_v1 : Hid (Below w.heap.size w v1) := Lib.hid (BB_v.out.trans (hB.mono BB_v.out.size))
         clear z0 z1
         have z0 := RC_v1.out.c0
         have z1 := RC_v1.out.c1
         clear hB RC_v RP_v BB_v)
      | ((with_reducible show wpList _ _ _ (⟨some 49, .load 24 (.tmp 7), _, _, _, _⟩ :: _) _ _); refine wpList_load_p (by rfl) 24 _ rfl (gp) (by exact rfl) _ _ Try.underlying24 (by kernel_rfl) OK_RP.out RP_v.out ?_)
      | ((with_reducible show wpList _ _ _ (⟨some 48, .load 23 (.tmp 3), _, _, _, _⟩ :: _) _ _); refine wpList_load_c (by rfl) 23 _ rfl (gc) (by exact rfl) _ Try.underlying23 (by kernel_rfl) 23 RC_v.out ?_))
              go_roundw
              case rel => exact ⟨j + 1, by have := HJ.out; omega, by go_num, RC_v3.out, RP_v3.out, BB_v3.out⟩
              case measure =>
                simp [intOf]
                omega
            · skip
              have hwt : chooseI c ps (j : Int) 0 mk = -1 := by rw [HLV.out _ (by omega), show ((m : Nat) : Int).toNat = m from by omega, HQ.out]; exact if_neg (by omega)
              have L1 := Lib.hid (fun W => KN.out (j : Int) (-1) W hwt (by omega) (by omega))
              have L2 : Hid (∀ W : World, Calls Try.prog 13 #[.agg #[.int .u8 ((c.m &&& (255 - mk) : Nat) : Int), .int .u8 (c.p : Int)], pv ps, .int .i64 (j : Int), .int .i64 0, .int .u8 0, .int .i64 (-1)] W fun x w' => x = .returned (.bool true) ∧ Below W.heap.size W w') := Lib.hid (fun W => KN2.out (j : Int) (-1) W hwt (by omega) (by omega))
              have L3 : Hid (∀ W : World, Calls Try.prog 13 #[.agg #[.int .u8 255, .int .u8 (((c.p &&& c.m) &&& (255 - mk) : Nat) : Int)], pv ps, .int .i64 (j : Int), .int .i64 0, .int .u8 0, .int .i64 (-1)] W fun x w' => x = .returned (.bool true) ∧ Below W.heap.size W w') := Lib.hid (fun W => KN3.out (j : Int) (-1) W hwt (by omega) (by omega))
              clear hwt
              go_wp2_with (first
      | (go_at_call 13; have hc := BB_v2; clear hc; rw [HA.out, HN2.out]; (with_reducible refine (L3.out _).mono ?_); rintro e v3 ⟨rfl, hB⟩
         have RC_v3 : Hid (CRow v3 (gc) 23 (c)) := Lib.hid (CRow.below RC_v2.out hB RC_v2.out.lt)
         have RP_v3 : Hid (PRow v3 (gp) (ps)) := Lib.hid (PRow.below RP_v2.out hB RP_v2.out.lt)
         have BB_v3 : Hid (Below w.heap.size w v3) := Lib.hid (BB_v2.out.trans (hB.mono BB_v2.out.size))
         clear z0 z1
         clear hB RC_v2 RP_v2 BB_v2)
      | ((with_reducible show wpList _ _ _ (⟨some 78, .load 24 (.tmp 7), _, _, _, _⟩ :: _) _ _); refine wpList_load_p (by kernel_rfl) 24 _ rfl (gp) (by exact rfl) _ _ Try.underlying24 (by kernel_rfl) OK_RP.out RP_v2.out ?_)
      | (go_at_call 13; have hc := BB_v1; clear hc; rw [HN1.out]; (with_reducible refine (L2.out _).mono ?_); rintro e v2 ⟨rfl, hB⟩
         have RC_v2 : Hid (CRow v2 (gc) 23 (c)) := Lib.hid (CRow.below RC_v1.out hB RC_v1.out.lt)
         have RP_v2 : Hid (PRow v2 (gp) (ps)) := Lib.hid (PRow.below RP_v1.out hB RP_v1.out.lt)
         have BB_v2 : Hid (Below w.heap.size w v2) := Lib.hid (BB_v1.out.trans (hB.mono BB_v1.out.size))
         clear z0 z1
         have z0 := RC_v2.out.c0
         have z1 := RC_v2.out.c1
         clear hB RC_v1 RP_v1 BB_v1)
      | ((with_reducible show wpList _ _ _ (⟨some 63, .load 24 (.tmp 7), _, _, _, _⟩ :: _) _ _); refine wpList_load_p (by kernel_rfl) 24 _ rfl (gp) (by exact rfl) _ _ Try.underlying24 (by kernel_rfl) OK_RP.out RP_v1.out ?_)
      | (go_at_call 13; have hc := BB_v; clear hc; (with_reducible refine (L1.out _).mono ?_); rintro e v1 ⟨rfl, hB⟩
         have RC_v1 : Hid (CRow v1 (gc) 23 (c)) := Lib.hid (CRow.below RC_v.out hB RC_v.out.lt)
         have RP_v1 : Hid (PRow v1 (gp) (ps)) := Lib.hid (PRow.below RP_v.out hB RP_v.out.lt)
         have BB_v1 : Hid (Below w.heap.size w v1) := Lib.hid (BB_v.out.trans (hB.mono BB_v.out.size))
         clear z0 z1
         have z0 := RC_v1.out.c0
         have z1 := RC_v1.out.c1
         clear hB RC_v RP_v BB_v)
      | ((with_reducible show wpList _ _ _ (⟨some 49, .load 24 (.tmp 7), _, _, _, _⟩ :: _) _ _); refine wpList_load_p (by rfl) 24 _ rfl (gp) (by exact rfl) _ _ Try.underlying24 (by kernel_rfl) OK_RP.out RP_v.out ?_)
      | ((with_reducible show wpList _ _ _ (⟨some 48, .load 23 (.tmp 3), _, _, _, _⟩ :: _) _ _); refine wpList_load_c (by rfl) 23 _ rfl (gc) (by exact rfl) _ Try.underlying23 (by kernel_rfl) 23 RC_v.out ?_))
              go_roundw
              case rel => exact ⟨j + 1, by have := HJ.out; omega, by go_num, RC_v3.out, RP_v3.out, BB_v3.out⟩
              case measure =>
                simp [intOf]
                omega
          · have d9 : ¬ (j : Int) < 9 := by omega
            clear q1 q2 q5 hlt hj
            go_wp2_with fail
            go_loopw [13] (fun iv wx => ∃ j : Nat, j ≤ 8 ∧ iv = .int .i64 (j : Int) ∧ CRow wx gc 23 c ∧ PRow wx gp ps ∧ Below w.heap.size w wx) (fun iv _ => 8 - (intOf iv).toNat)
            case atStart => exact ⟨0, by omega, rfl, RC_v.out, RP_v.out, BB_v.out⟩
            case round =>
              clear RC_v RP_v BB_v
              obtain ⟨j, hj, rfl, q1, q2, q5⟩ := hrel
              obtain ⟨v, hv⟩ : ∃ v, wr = v := ⟨_, rfl⟩
              rw [hv] at q1 q2 q5 ⊢
              clear hv
              have RC_v := Lib.hid q1
              have RP_v := Lib.hid q2
              have BB_v := Lib.hid q5
              clear q1 q2 q5
              by_cases hlt : j < 8
              · have d1 : (j : Int) < 8 := by omega
                have HIJ := Lib.hid (fun W => run_index_eight gp j W hlt)
                have HIM := Lib.hid (fun W => run_index_eight gp m W hm8)
                have HCJ := Lib.hid (fun (W : World) (hr : PRow W gp ps) => hr.at OK_RP.out j hlt)
                have HCM : Hid (∀ (W : World) (hr : PRow W gp ps), W.cell? ⟨gp, m, none⟩ = some (.int .i64 q)) := Lib.hid (fun W hr => by have h1 := hr.at OK_RP.out m hm8; rw [HQ.out] at h1; exact h1)
                have pj := OK_RP.out.prio j
                obtain ⟨y, hy⟩ : ∃ y, prio ps j = y := ⟨_, rfl⟩
                rw [hy] at pj HCJ
                clear hy
                have HJ := Lib.hid hlt
                go_upto_region 20 with fail
                by_cases hjm : j = m
                · have dne : ((j : Int) != (m : Int)) = false := by simp [hjm]
                  refine wp_region_noPanic ?_
                  refine wp_region_held_drew (S := fun X => Below v.heap.size v X) (by kernel_rfl) ((Below.refl _ v).drew) (fun hHeld => ?_)
                  refine' take_ 0 rfl (by kernel_rfl) (by kernel_rfl) (by kernel_rfl) (fun _ _ _ h => h) (by rfl) (fun wS hSw => ?_) hHeld ?_
                  rotate_left
                  focus (go_simp; (try with_reducible rfl); done)
                  try simp only [Act.put, List.setIfInBounds_toArray, List.set_cons_zero, List.set_cons_succ]
                  refine' take_ 1 rfl (by kernel_rfl) (by kernel_rfl) (by kernel_rfl) (fun _ _ _ h => h) (by rfl) (fun wS hSw => ?_) hHeld ?_
                  rotate_left
                  focus (go_simp; (try with_reducible rfl); done)
                  try simp only [Act.put, List.setIfInBounds_toArray, List.set_cons_zero, List.set_cons_succ]
                  refine' take_ 2 rfl (by kernel_rfl) (by kernel_rfl) (by kernel_rfl) (fun _ _ _ h => h) (by rfl) (fun wS hSw => ?_) hHeld ?_
                  rotate_left
                  focus (go_simp; (try with_reducible rfl); done)
                  try simp only [Act.put, List.setIfInBounds_toArray, List.set_cons_zero, List.set_cons_succ]
                  refine' take_ 3 rfl (by kernel_rfl) (by kernel_rfl) (by kernel_rfl) (fun _ _ _ h => h) (by rfl) (fun wS hSw => ?_) hHeld ?_
                  rotate_left
                  focus (go_simp; (try with_reducible rfl); done)
                  try simp only [Act.put, List.setIfInBounds_toArray, List.set_cons_zero, List.set_cons_succ]
                  refine' pass_ 4 rfl (by kernel_rfl) (by kernel_rfl) (by kernel_rfl) (fun _ _ _ h => h) (by rfl) hHeld ?_
                  try simp only [Act.put, List.setIfInBounds_toArray, List.set_cons_zero, List.set_cons_succ]
                  refine' pass_ 5 rfl (by kernel_rfl) (by kernel_rfl) (by kernel_rfl) (fun _ _ _ h => h) (by rfl) hHeld ?_
                  try simp only [Act.put, List.setIfInBounds_toArray, List.set_cons_zero, List.set_cons_succ]
                  refine' pass_ 6 rfl (by kernel_rfl) (by kernel_rfl) (by kernel_rfl) (fun _ _ _ h => h) (by rfl) hHeld ?_
                  try simp only [Act.put, List.setIfInBounds_toArray, List.set_cons_zero, List.set_cons_succ]
                  refine' pass_ 7 rfl (by kernel_rfl) (by kernel_rfl) (by kernel_rfl) (fun _ _ _ h => h) (by rfl) hHeld ?_
                  try simp only [Act.put, List.setIfInBounds_toArray, List.set_cons_zero, List.set_cons_succ]
                  refine' pass_ 8 rfl (by kernel_rfl) (by kernel_rfl) (by kernel_rfl) (fun _ _ _ h => h) (by rfl) hHeld ?_
                  try simp only [Act.put, List.setIfInBounds_toArray, List.set_cons_zero, List.set_cons_succ]
                  refine' pass_ 9 rfl (by kernel_rfl) (by kernel_rfl) (by kernel_rfl) (fun _ _ _ h => h) (by rfl) hHeld ?_
                  try simp only [Act.put, List.setIfInBounds_toArray, List.set_cons_zero, List.set_cons_succ]
                  refine' pass_ 10 rfl (by kernel_rfl) (by kernel_rfl) (by kernel_rfl) (fun _ _ _ h => h) (by rfl) hHeld ?_
                  try simp only [Act.put, List.setIfInBounds_toArray, List.set_cons_zero, List.set_cons_succ]
                  refine' take_ 11 rfl (by kernel_rfl) (by kernel_rfl) (by kernel_rfl) (fun _ _ _ h => h) (by rfl) (fun wS hSw => ?_) hHeld ?_
                  rotate_left
                  focus (go_simp; (try with_reducible rfl); done)
                  try simp only [Act.put, List.setIfInBounds_toArray, List.set_cons_zero, List.set_cons_succ]
                  refine wpAnyH_done (by kernel_rfl) ?_ _
                  refine NoPanic.normal ?_
                  have RC_v1 : Hid (CRow _ gc 23 c) := Lib.hid (RC_v.out.below hHeld RC_v.out.lt)
                  have RP_v1 := Lib.hid (RP_v.out.below hHeld RP_v.out.lt)
                  have BB_v1 := Lib.hid (BB_v.out.trans (hHeld.mono BB_v.out.size))
                  clear hHeld RC_v RP_v BB_v
                  obtain ⟨v1, hv1⟩ : ∃ W, v.drew = W := ⟨_, rfl⟩
                  rw [hv1] at RC_v1 RP_v1 BB_v1 ⊢
                  clear hv1
                  go_wp2_with fail
                  go_roundw
                  case rel => exact ⟨j + 1, by have := HJ.out; omega, by go_num, RC_v1.out, RP_v1.out, BB_v1.out⟩
                  case measure =>
                    simp [intOf]
                    omega
                · have dne : ((j : Int) != (m : Int)) = true := by simp; omega
                  by_cases dlt : y < q
                  · skip
                    refine wp_region_noPanic ?_
                    refine wp_region_held_drew (S := fun X => Below v.heap.size v X) (by kernel_rfl) ((Below.refl _ v).drew) (fun hHeld => ?_)
                    refine' take_ 0 rfl (by kernel_rfl) (by kernel_rfl) (by kernel_rfl) (fun _ _ _ h => h) (by rfl) (fun wS hSw => ?_) hHeld ?_
                    rotate_left
                    focus (go_simp; (try with_reducible rfl); done)
                    try simp only [Act.put, List.setIfInBounds_toArray, List.set_cons_zero, List.set_cons_succ]
                    refine' take_ 1 rfl (by kernel_rfl) (by kernel_rfl) (by kernel_rfl) (fun _ _ _ h => h) (by rfl) (fun wS hSw => ?_) hHeld ?_
                    rotate_left
                    focus (go_simp; (try with_reducible rfl); done)
                    try simp only [Act.put, List.setIfInBounds_toArray, List.set_cons_zero, List.set_cons_succ]
                    refine' take_ 2 rfl (by kernel_rfl) (by kernel_rfl) (by kernel_rfl) (fun _ _ _ h => h) (by rfl) (fun wS hSw => ?_) hHeld ?_
                    rotate_left
                    focus (go_simp; (try with_reducible rfl); done)
                    try simp only [Act.put, List.setIfInBounds_toArray, List.set_cons_zero, List.set_cons_succ]
                    refine' take_ 3 rfl (by kernel_rfl) (by kernel_rfl) (by kernel_rfl) (fun _ _ _ h => h) (by rfl) (fun wS hSw => ?_) hHeld ?_
                    rotate_left
                    focus (go_simp; (try with_reducible rfl); done)
                    try simp only [Act.put, List.setIfInBounds_toArray, List.set_cons_zero, List.set_cons_succ]
                    refine' take_ 4 rfl (by kernel_rfl) (by kernel_rfl) (by kernel_rfl) (fun _ _ _ h => h) (by rfl) (fun wS hSw => ?_) hHeld ?_
                    rotate_left
                    focus (go_simp; (try with_reducible rfl); done)
                    try simp only [Act.put, List.setIfInBounds_toArray, List.set_cons_zero, List.set_cons_succ]
                    refine' take_ 5 rfl (by kernel_rfl) (by kernel_rfl) (by kernel_rfl) (fun _ _ _ h => h) (by rfl) (fun wS hSw => ?_) hHeld ?_
                    rotate_left
                    focus (have hI := HIJ.out; go_simp; (try with_reducible rfl); done)
                    try simp only [Act.put, List.setIfInBounds_toArray, List.set_cons_zero, List.set_cons_succ]
                    refine' take_ 6 rfl (by kernel_rfl) (by kernel_rfl) (by kernel_rfl) (fun _ _ _ h => h) (by rfl) (fun wS hSw => ?_) hHeld ?_
                    rotate_left
                    focus (have s0 := HCJ.out _ (RP_v.out.below hSw RP_v.out.lt); clear hSw; go_simp; (try with_reducible rfl); done)
                    try simp only [Act.put, List.setIfInBounds_toArray, List.set_cons_zero, List.set_cons_succ]
                    refine' take_ 7 rfl (by kernel_rfl) (by kernel_rfl) (by kernel_rfl) (fun _ _ _ h => h) (by rfl) (fun wS hSw => ?_) hHeld ?_
                    rotate_left
                    focus (go_simp; (try with_reducible rfl); done)
                    try simp only [Act.put, List.setIfInBounds_toArray, List.set_cons_zero, List.set_cons_succ]
                    refine' take_ 8 rfl (by kernel_rfl) (by kernel_rfl) (by kernel_rfl) (fun _ _ _ h => h) (by rfl) (fun wS hSw => ?_) hHeld ?_
                    rotate_left
                    focus (have hI := HIM.out; go_simp; (try with_reducible rfl); done)
                    try simp only [Act.put, List.setIfInBounds_toArray, List.set_cons_zero, List.set_cons_succ]
                    refine' take_ 9 rfl (by kernel_rfl) (by kernel_rfl) (by kernel_rfl) (fun _ _ _ h => h) (by rfl) (fun wS hSw => ?_) hHeld ?_
                    rotate_left
                    focus (have s0 := HCM.out _ (RP_v.out.below hSw RP_v.out.lt); clear hSw; go_simp; (try with_reducible rfl); done)
                    try simp only [Act.put, List.setIfInBounds_toArray, List.set_cons_zero, List.set_cons_succ]
                    refine' take_ 10 rfl (by kernel_rfl) (by kernel_rfl) (by kernel_rfl) (fun _ _ _ h => h) (by rfl) (fun wS hSw => ?_) hHeld ?_
                    rotate_left
                    focus (go_simp; (try with_reducible rfl); done)
                    try simp only [Act.put, List.setIfInBounds_toArray, List.set_cons_zero, List.set_cons_succ]
                    refine' take_ 11 rfl (by kernel_rfl) (by kernel_rfl) (by kernel_rfl) (fun _ _ _ h => h) (by rfl) (fun wS hSw => ?_) hHeld ?_
                    rotate_left
                    focus (go_simp; (try with_reducible rfl); done)
                    try simp only [Act.put, List.setIfInBounds_toArray, List.set_cons_zero, List.set_cons_succ]
                    refine wpAnyH_done (by kernel_rfl) ?_ _
                    refine NoPanic.normal ?_
                    have RC_v1 : Hid (CRow _ gc 23 c) := Lib.hid (RC_v.out.below hHeld RC_v.out.lt)
                    have RP_v1 := Lib.hid (RP_v.out.below hHeld RP_v.out.lt)
                    have BB_v1 := Lib.hid (BB_v.out.trans (hHeld.mono BB_v.out.size))
                    clear hHeld RC_v RP_v BB_v
                    obtain ⟨v1, hv1⟩ : ∃ W, v.drew = W := ⟨_, rfl⟩
                    rw [hv1] at RC_v1 RP_v1 BB_v1 ⊢
                    clear hv1
                    have OK_RO : Hid (PsOk ps) := OK_RP
                    have OKS := Lib.hid (set_ok OK_RP.out j (y := q - 1) (by omega) (by omega))
                    have KO : Hid (∀ W : World, Calls Try.prog 13 #[cv c, pv (ps.set j (q - 1)), .int .i64 0, .int .i64 0, .int .u8 (mk : Int), .int .i64 (m : Int)] W fun x w' => x = .returned (.bool true) ∧ Below W.heap.size W w') := Lib.hid (fun W => by
                      have h2 := chosen_any H c (ps.set j (q - 1)) 0 0 mk (m : Int) W HC.out OKS.out (by decide) (by decide) (by decide) (by decide) hm
                      have h3 := HOT.out m j rfl HJ.out hjm
                      rw [HQ.out] at h3
                      rw [decide_eq_true h3] at h2
                      exact h2)
                    have HI3 := Lib.hid (fun g W => run_index_eight g j W HJ.out)
                    have hI := HIM.out
                    have hI3 := fun g => HI3.out g
                    have RC_v1lt := Lib.hid RC_v1.out.lt
                    have RP_v1lt := Lib.hid RP_v1.out.lt
                    have LE1 := Lib.hid BB_v1.out.size
                    go_wp2_with (first
      | (go_at_call 13; have hc := BB_v3; clear hc; (with_reducible refine (KO.out _).mono ?_); rintro e v4 ⟨rfl, hB⟩
         have RC_v4 : Hid (CRow v4 (gc) 23 (c)) := Lib.hid (CRow.below RC_v3.out hB RC_v3.out.lt)
         have RP_v4 : Hid (PRow v4 (gp) (ps)) := Lib.hid (PRow.below RP_v3.out hB RP_v3.out.lt)
         have RO_v4 : Hid (PRow v4 (v1.heap.size) (ps.set j (q - 1))) := Lib.hid (PRow.below RO_v3.out hB RO_v3.out.lt)
         have BB_v4 : Hid (Below w.heap.size w v4) := Lib.hid (BB_v3.out.trans (hB.mono BB_v3.out.size))
         clear hB RC_v3 RP_v3 RO_v3 BB_v3)
      | ((with_reducible show wpList _ _ _ (⟨some 111, .load 24 (.tmp 14), _, _, _, _⟩ :: _) _ _); refine wpList_load_p (by rfl) 24 _ rfl (v1.heap.size) (by exact rfl) _ _ Try.underlying24 (by kernel_rfl) OKS.out RO_v3.out ?_)
      | ((with_reducible show wpList _ _ _ (⟨some 110, .load 23 (.tmp 3), _, _, _, _⟩ :: _) _ _); refine wpList_load_c (by rfl) 23 _ rfl (gc) (by exact rfl) _ Try.underlying23 (by kernel_rfl) 23 RC_v3.out ?_)
      | ((with_reducible show wpList _ _ _ (⟨none, .store 3 (.tmp 109) (.tmp 108), _, _, _, _⟩ :: _) _ _); refine wpList_store_pj rfl 3 _ _ rfl (v1.heap.size) j (by exact rfl) (q - 1) (by exact rfl) (by kernel_rfl) OK_RO.out RO_v2.out HJ.out ?_; intro v3 HN HO HB
         have RC_v3 : Hid (CRow v3 gc 23 c) := Lib.hid (RC_v2.out.other HO.out (Nat.ne_of_lt RC_v1lt.out))
         have RP_v3 : Hid (PRow v3 gp ps) := Lib.hid (RP_v2.out.other HO.out (Nat.ne_of_lt RP_v1lt.out))
         have RO_v3 : Hid (PRow v3 v1.heap.size (ps.set j (q - 1))) := HN
         have BB_v3 : Hid (Below w.heap.size w v3) := Lib.hid (BB_v2.out.trans (HB.out.mono LE1.out))
         clear HN HO HB cm RC_v2 RP_v2 RO_v2 BB_v2)
      | ((with_reducible show wpList _ _ _ (⟨none, .store 24 (.tmp 14) (.tmp 103), _, _, _, _⟩ :: _) _ _); refine wpList_store_p  rfl 24 _ _ rfl (v1.heap.size) (by exact rfl) (by exact rfl) (by kernel_rfl) zeros_ok OK_RO.out (show PRow _ _ zeros8 from alloc_at _ _) ?_; intro v2 HN HO HB
         have RC_v2 : Hid (CRow v2 (gc) 23 (c)) := Lib.hid (CRow.other (CRow.below RC_v1.out ((Below.refl _ _).alloc (Nat.le_refl _) _) RC_v1.out.lt) HO.out (Nat.ne_of_lt RC_v1.out.lt))
         have RP_v2 : Hid (PRow v2 (gp) (ps)) := Lib.hid (PRow.other (PRow.below RP_v1.out ((Below.refl _ _).alloc (Nat.le_refl _) _) RP_v1.out.lt) HO.out (Nat.ne_of_lt RP_v1.out.lt))
         have RO_v2 : Hid (PRow v2 (v1.heap.size) (ps)) := HN
         have BB_v2 : Hid (Below w.heap.size w v2) := Lib.hid ((BB_v1.out.alloc BB_v1.out.size _).trans (HB.out.mono BB_v1.out.size))
         have cm := HCM.out _ RP_v2.out
         clear HO HB HN RC_v1 RP_v1 BB_v1)
      | ((with_reducible show wpList _ _ _ (⟨some 103, .load 24 (.tmp 7), _, _, _, _⟩ :: _) _ _); refine wpList_load_p (by rfl) 24 _ rfl (gp) (by exact rfl) _ _ Try.underlying24 (by kernel_rfl) OK_RP.out RP_v1.out ?_))
                    go_roundw
                    case rel => exact ⟨j + 1, by have := HJ.out; omega, by go_num, RC_v4.out, RP_v4.out, BB_v4.out⟩
                    case measure =>
                      simp [intOf]
                      omega
                  · skip
                    refine wp_region_noPanic ?_
                    refine wp_region_held_drew (S := fun X => Below v.heap.size v X) (by kernel_rfl) ((Below.refl _ v).drew) (fun hHeld => ?_)
                    refine' take_ 0 rfl (by kernel_rfl) (by kernel_rfl) (by kernel_rfl) (fun _ _ _ h => h) (by rfl) (fun wS hSw => ?_) hHeld ?_
                    rotate_left
                    focus (go_simp; (try with_reducible rfl); done)
                    try simp only [Act.put, List.setIfInBounds_toArray, List.set_cons_zero, List.set_cons_succ]
                    refine' take_ 1 rfl (by kernel_rfl) (by kernel_rfl) (by kernel_rfl) (fun _ _ _ h => h) (by rfl) (fun wS hSw => ?_) hHeld ?_
                    rotate_left
                    focus (go_simp; (try with_reducible rfl); done)
                    try simp only [Act.put, List.setIfInBounds_toArray, List.set_cons_zero, List.set_cons_succ]
                    refine' take_ 2 rfl (by kernel_rfl) (by kernel_rfl) (by kernel_rfl) (fun _ _ _ h => h) (by rfl) (fun wS hSw => ?_) hHeld ?_
                    rotate_left
                    focus (go_simp; (try with_reducible rfl); done)
                    try simp only [Act.put, List.setIfInBounds_toArray, List.set_cons_zero, List.set_cons_succ]
                    refine' take_ 3 rfl (by kernel_rfl) (by kernel_rfl) (by kernel_rfl) (fun _ _ _ h => h) (by rfl) (fun wS hSw => ?_) hHeld ?_
                    rotate_left
                    focus (go_simp; (try with_reducible rfl); done)
                    try simp only [Act.put, List.setIfInBounds_toArray, List.set_cons_zero, List.set_cons_succ]
                    refine' take_ 4 rfl (by kernel_rfl) (by kernel_rfl) (by kernel_rfl) (fun _ _ _ h => h) (by rfl) (fun wS hSw => ?_) hHeld ?_
                    rotate_left
                    focus (go_simp; (try with_reducible rfl); done)
                    try simp only [Act.put, List.setIfInBounds_toArray, List.set_cons_zero, List.set_cons_succ]
                    refine' take_ 5 rfl (by kernel_rfl) (by kernel_rfl) (by kernel_rfl) (fun _ _ _ h => h) (by rfl) (fun wS hSw => ?_) hHeld ?_
                    rotate_left
                    focus (have hI := HIJ.out; go_simp; (try with_reducible rfl); done)
                    try simp only [Act.put, List.setIfInBounds_toArray, List.set_cons_zero, List.set_cons_succ]
                    refine' take_ 6 rfl (by kernel_rfl) (by kernel_rfl) (by kernel_rfl) (fun _ _ _ h => h) (by rfl) (fun wS hSw => ?_) hHeld ?_
                    rotate_left
                    focus (have s0 := HCJ.out _ (RP_v.out.below hSw RP_v.out.lt); clear hSw; go_simp; (try with_reducible rfl); done)
                    try simp only [Act.put, List.setIfInBounds_toArray, List.set_cons_zero, List.set_cons_succ]
                    refine' take_ 7 rfl (by kernel_rfl) (by kernel_rfl) (by kernel_rfl) (fun _ _ _ h => h) (by rfl) (fun wS hSw => ?_) hHeld ?_
                    rotate_left
                    focus (go_simp; (try with_reducible rfl); done)
                    try simp only [Act.put, List.setIfInBounds_toArray, List.set_cons_zero, List.set_cons_succ]
                    refine' take_ 8 rfl (by kernel_rfl) (by kernel_rfl) (by kernel_rfl) (fun _ _ _ h => h) (by rfl) (fun wS hSw => ?_) hHeld ?_
                    rotate_left
                    focus (have hI := HIM.out; go_simp; (try with_reducible rfl); done)
                    try simp only [Act.put, List.setIfInBounds_toArray, List.set_cons_zero, List.set_cons_succ]
                    refine' take_ 9 rfl (by kernel_rfl) (by kernel_rfl) (by kernel_rfl) (fun _ _ _ h => h) (by rfl) (fun wS hSw => ?_) hHeld ?_
                    rotate_left
                    focus (have s0 := HCM.out _ (RP_v.out.below hSw RP_v.out.lt); clear hSw; go_simp; (try with_reducible rfl); done)
                    try simp only [Act.put, List.setIfInBounds_toArray, List.set_cons_zero, List.set_cons_succ]
                    refine' take_ 10 rfl (by kernel_rfl) (by kernel_rfl) (by kernel_rfl) (fun _ _ _ h => h) (by rfl) (fun wS hSw => ?_) hHeld ?_
                    rotate_left
                    focus (go_simp; (try with_reducible rfl); done)
                    try simp only [Act.put, List.setIfInBounds_toArray, List.set_cons_zero, List.set_cons_succ]
                    refine' take_ 11 rfl (by kernel_rfl) (by kernel_rfl) (by kernel_rfl) (fun _ _ _ h => h) (by rfl) (fun wS hSw => ?_) hHeld ?_
                    rotate_left
                    focus (go_simp; (try with_reducible rfl); done)
                    try simp only [Act.put, List.setIfInBounds_toArray, List.set_cons_zero, List.set_cons_succ]
                    refine wpAnyH_done (by kernel_rfl) ?_ _
                    refine NoPanic.normal ?_
                    have RC_v1 : Hid (CRow _ gc 23 c) := Lib.hid (RC_v.out.below hHeld RC_v.out.lt)
                    have RP_v1 := Lib.hid (RP_v.out.below hHeld RP_v.out.lt)
                    have BB_v1 := Lib.hid (BB_v.out.trans (hHeld.mono BB_v.out.size))
                    clear hHeld RC_v RP_v BB_v
                    obtain ⟨v1, hv1⟩ : ∃ W, v.drew = W := ⟨_, rfl⟩
                    rw [hv1] at RC_v1 RP_v1 BB_v1 ⊢
                    clear hv1
                    go_wp2_with fail
                    go_roundw
                    case rel => exact ⟨j + 1, by have := HJ.out; omega, by go_num, RC_v1.out, RP_v1.out, BB_v1.out⟩
                    case measure =>
                      simp [intOf]
                      omega
              · obtain rfl : j = 8 := by omega
                go_wp2_with fail
                go_ret
                exact ⟨rfl, BB_v.out⟩

      · obtain rfl : b = -1 := by omega
        have hdb : decide (0 ≤ (-1 : Int)) = false := by decide
        rw [hdb] at KC
        go_wp2_with (first
      | (go_at_call 10; have hc := BB_wr; clear hc; (with_reducible refine (KC.out _).mono ?_); rintro e w3 ⟨rfl, hB⟩
         have RC_w3 : Hid (CRow w3 (gc) 23 (c)) := Lib.hid (CRow.below RC_wr.out hB RC_wr.out.lt)
         have RP_w3 : Hid (PRow w3 (gp) (ps)) := Lib.hid (PRow.below RP_wr.out hB RP_wr.out.lt)
         have BB_w3 : Hid (Below w.heap.size w w3) := Lib.hid (BB_wr.out.trans (hB.mono BB_wr.out.size))
         clear hB RC_wr RP_wr BB_wr)
      | ((with_reducible show wpList _ _ _ (⟨some 30, .load 24 (.tmp 7), _, _, _, _⟩ :: _) _ _); refine wpList_load_p (by rfl) 24 _ rfl (gp) (by exact rfl) _ _ Try.underlying24 (by kernel_rfl) OK_RP.out RP_wr.out ?_)
      | ((with_reducible show wpList _ _ _ (⟨some 29, .load 23 (.tmp 3), _, _, _, _⟩ :: _) _ _); refine wpList_load_c (by rfl) 23 _ rfl (gc) (by exact rfl) _ Try.underlying23 (by kernel_rfl) 23 RC_wr.out ?_))
        clear KC
        clear hrg
        go_loopw [11] (fun iv wx => ∃ j : Nat, j ≤ 9 ∧ iv = .int .i64 (j : Int) ∧ CRow wx gc 23 c ∧ PRow wx gp ps ∧ Below w.heap.size w wx) (fun iv _ => 9 - (intOf iv).toNat)
        case atStart => exact ⟨0, by omega, rfl, RC_w3.out, RP_w3.out, BB_w3.out⟩
        case round =>
          clear RC_w3 RP_w3 BB_w3
          obtain ⟨j, hj, rfl, q1, q2, q5⟩ := hrel
          have RC_v := Lib.hid q1
          have RP_v := Lib.hid q2
          have BB_v := Lib.hid q5
          by_cases hlt : j < 9
          · have d1 : (j : Int) < 9 := by omega
            have HJ := Lib.hid hlt
            have z0 := q1.c0
            have z1 := q1.c1
            clear q1 q2 q5 hlt
            have hwt : chooseI c ps (j : Int) 0 mk = -1 := by rw [HLV.out _ (by omega)]; exact if_neg (by omega)
            have L1 := Lib.hid (fun W => KN.out (j : Int) (-1) W hwt (by omega) (by omega))
            have L2 : Hid (∀ W : World, Calls Try.prog 13 #[.agg #[.int .u8 ((c.m &&& (255 - mk) : Nat) : Int), .int .u8 (c.p : Int)], pv ps, .int .i64 (j : Int), .int .i64 0, .int .u8 0, .int .i64 (-1)] W fun x w' => x = .returned (.bool true) ∧ Below W.heap.size W w') := Lib.hid (fun W => KN2.out (j : Int) (-1) W hwt (by omega) (by omega))
            have L3 : Hid (∀ W : World, Calls Try.prog 13 #[.agg #[.int .u8 255, .int .u8 (((c.p &&& c.m) &&& (255 - mk) : Nat) : Int)], pv ps, .int .i64 (j : Int), .int .i64 0, .int .u8 0, .int .i64 (-1)] W fun x w' => x = .returned (.bool true) ∧ Below W.heap.size W w') := Lib.hid (fun W => KN3.out (j : Int) (-1) W hwt (by omega) (by omega))
            clear hwt
            go_wp2_with (first
      | (go_at_call 13; have hc := BB_v2; clear hc; rw [HA.out, HN2.out]; (with_reducible refine (L3.out _).mono ?_); rintro e v3 ⟨rfl, hB⟩
         have RC_v3 : Hid (CRow v3 (gc) 23 (c)) := Lib.hid (CRow.below RC_v2.out hB RC_v2.out.lt)
         have RP_v3 : Hid (PRow v3 (gp) (ps)) := Lib.hid (PRow.below RP_v2.out hB RP_v2.out.lt)
         have BB_v3 : Hid (Below w.heap.size w v3) := Lib.hid (BB_v2.out.trans (hB.mono BB_v2.out.size))
         clear z0 z1
         clear hB RC_v2 RP_v2 BB_v2)
      | ((with_reducible show wpList _ _ _ (⟨some 78, .load 24 (.tmp 7), _, _, _, _⟩ :: _) _ _); refine wpList_load_p (by kernel_rfl) 24 _ rfl (gp) (by exact rfl) _ _ Try.underlying24 (by kernel_rfl) OK_RP.out RP_v2.out ?_)
      | (go_at_call 13; have hc := BB_v1; clear hc; rw [HN1.out]; (with_reducible refine (L2.out _).mono ?_); rintro e v2 ⟨rfl, hB⟩
         have RC_v2 : Hid (CRow v2 (gc) 23 (c)) := Lib.hid (CRow.below RC_v1.out hB RC_v1.out.lt)
         have RP_v2 : Hid (PRow v2 (gp) (ps)) := Lib.hid (PRow.below RP_v1.out hB RP_v1.out.lt)
         have BB_v2 : Hid (Below w.heap.size w v2) := Lib.hid (BB_v1.out.trans (hB.mono BB_v1.out.size))
         clear z0 z1
         have z0 := RC_v2.out.c0
         have z1 := RC_v2.out.c1
         clear hB RC_v1 RP_v1 BB_v1)
      | ((with_reducible show wpList _ _ _ (⟨some 63, .load 24 (.tmp 7), _, _, _, _⟩ :: _) _ _); refine wpList_load_p (by kernel_rfl) 24 _ rfl (gp) (by exact rfl) _ _ Try.underlying24 (by kernel_rfl) OK_RP.out RP_v1.out ?_)
      | (go_at_call 13; have hc := BB_v; clear hc; (with_reducible refine (L1.out _).mono ?_); rintro e v1 ⟨rfl, hB⟩
         have RC_v1 : Hid (CRow v1 (gc) 23 (c)) := Lib.hid (CRow.below RC_v.out hB RC_v.out.lt)
         have RP_v1 : Hid (PRow v1 (gp) (ps)) := Lib.hid (PRow.below RP_v.out hB RP_v.out.lt)
         have BB_v1 : Hid (Below w.heap.size w v1) := Lib.hid (BB_v.out.trans (hB.mono BB_v.out.size))
         clear z0 z1
         have z0 := RC_v1.out.c0
         have z1 := RC_v1.out.c1
         clear hB RC_v RP_v BB_v)
      | ((with_reducible show wpList _ _ _ (⟨some 49, .load 24 (.tmp 7), _, _, _, _⟩ :: _) _ _); refine wpList_load_p (by rfl) 24 _ rfl (gp) (by exact rfl) _ _ Try.underlying24 (by kernel_rfl) OK_RP.out RP_v.out ?_)
      | ((with_reducible show wpList _ _ _ (⟨some 48, .load 23 (.tmp 3), _, _, _, _⟩ :: _) _ _); refine wpList_load_c (by rfl) 23 _ rfl (gc) (by exact rfl) _ Try.underlying23 (by kernel_rfl) 23 RC_v.out ?_))
            go_roundw
            case rel => exact ⟨j + 1, by have := HJ.out; omega, by go_num, RC_v3.out, RP_v3.out, BB_v3.out⟩
            case measure =>
              simp [intOf]
              omega
          · have d9 : ¬ (j : Int) < 9 := by omega
            clear q1 q2 q5 hlt hj
            go_wp2_with fail
            go_loopw [13] (fun iv wx => iv = .int .i64 0 ∧ Below w.heap.size w wx) (fun _ _ => 0)
            case atStart => exact ⟨rfl, BB_v.out⟩
            case round =>
              obtain ⟨rfl, hvx⟩ := hrel
              go_wp2_with fail
              go_ret
              exact ⟨rfl, hvx⟩

end Go.Proofs.Ytcdomelfmkbloaa
