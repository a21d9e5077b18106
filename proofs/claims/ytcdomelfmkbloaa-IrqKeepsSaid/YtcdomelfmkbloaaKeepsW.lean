/-
  IrqKeeps' walk, if the program's functions are what they must be: true. Made by wip/genirqkeeps.py.
-/
import Derived.Test.YtcdomelfmkbloaaKeepM
import Derived.Deep.DeepCutAuto
import Derived.Deep.CutBlock
namespace Go.Proofs.Ytcdomelfmkbloaa
open Go.RowKit
set_option linter.unusedVariables false
theorem cell_off1 {w : World} {a : Addr} {v : Value} (h : w.cell? (a.add 1) = some v) : w.cell? ⟨a.block, a.off + 1, none⟩ = some v := h
theorem cell_off2 {w : World} {a : Addr} {v : Value} (h : w.cell? (a.add 2) = some v) : w.cell? ⟨a.block, a.off + 2, none⟩ = some v := h
set_option maxHeartbeats 32000000 in
set_option maxRecDepth 100000 in
theorem keeps_walk (H : IrqOk) (rs : List Nat) (A : Option Addr) (len cap : Nat) (w : World) (hr : RawOk rs) (hlen : len ≤ 9223372036854775807) (hA : Acts3 w A len) :
    Calls Try.prog 4 #[rawv rs, .slice A len cap] w fun x w' => x = .returned (.bool true) ∧ Below w.heap.size w w' := by
  have KW := Lib.hid (works_any H)
  have HR := Lib.hid hr
  have HA := Lib.hid hA
  clear hA hr
  unfold rawv
  go_enter Try.func4, Try.ntmps4
  go_upto_region 1 with (fail)
  refine name_one (Q := fun X => Code.wp _ _ _ _ X) ?_
  intro w0 hq1 hB0 hz0
  have RW_w0 : Hid (VRow w0 w.heap.size 30 (rawc rs)) := Lib.hid hq1
  have BB_w0 := Lib.hid hB0
  clear hq1 hB0 hz0
  obtain ⟨gw, hgw⟩ : ∃ g, w.heap.size = g := ⟨_, rfl⟩
  rw [hgw] at RW_w0 ⊢
  clear hgw
  go_upto_region 3 with (first
      | (go_at_call 7; have hc := BB_w0; clear hc; (with_reducible refine (KW.out _).mono ?_); rintro e w1 ⟨rfl, hB⟩
         have RW_w1 : Hid (VRow w1 (gw) 30 (rawc rs)) := Lib.hid (VRow.below RW_w0.out hB RW_w0.out.lt)
         have BB_w1 : Hid (Below w.heap.size w w1) := Lib.hid (BB_w0.out.trans (hB.mono BB_w0.out.size))
         clear hB RW_w0 BB_w0))
  go_upto_region 4 with fail
  have RW_w2 : Hid (VRow _ gw 30 (rawc rs)) := Lib.hid (RW_w1.out.below ((Below.refl _ _).alloc (Nat.le_refl _) (.cells (psc zeros8).toArray 24)) RW_w1.out.lt)
  have RP_w2 : Hid (PRow _ w1.heap.size zeros8) := Lib.hid (alloc_at w1 (.cells (psc zeros8).toArray 24))
  have BB_w2 := Lib.hid (BB_w1.out.alloc BB_w1.out.size (.cells (psc zeros8).toArray 24))
  have LEV := BB_w1.out.size
  have NEW := Nat.ne_of_lt RW_w1.out.lt
  obtain ⟨w2, hw2⟩ : ∃ W, W = w1.alloc (.cells (psc zeros8).toArray 24) := ⟨_, rfl⟩
  rw [← hw2] at RW_w2 RP_w2 BB_w2
  have hw2' : w1.alloc (.cells #[.int .i64 0, .int .i64 0, .int .i64 0, .int .i64 0, .int .i64 0, .int .i64 0, .int .i64 0, .int .i64 0] 24) = w2 := hw2.symm
  rw [hw2']
  clear hw2 hw2' RW_w1 BB_w1
  generalize w1.heap.size = gp at *
  have LE_RP := Lib.hid LEV
  have NE_RW_RP := Lib.hid NEW
  clear LEV NEW
  go_wp2_with fail
  go_loopw [6] (fun iv wr => ∃ k : Nat, k ≤ 8 ∧ iv = .int .i64 (k : Int) ∧ VRow wr gw 30 (rawc rs) ∧ PRow wr gp (fillK rs k) ∧ Below w.heap.size w wr) (fun iv _ => 8 - (intOf iv).toNat)
  case atStart => exact ⟨0, by omega, rfl, RW_w2.out, RP_w2.out, BB_w2.out⟩
  case round =>
    clear RW_w2 RP_w2 BB_w2
    obtain ⟨k, hk, rfl, q2, q3, q4⟩ := hrel
    have RW_wr := Lib.hid q2
    have RP_wr := Lib.hid q3
    have BB_wr := Lib.hid q4
    by_cases hlt : k < 8
    · have d1 : (k : Int) < 8 := by omega
      have hI1 := fun W => run_index_raw gw k W hlt
      have hI2 := fun W => run_index_eight gp k W hlt
      have cp := raw_at q2 HR.out k hlt
      have hx8 := HR.out.raw k
      have OKK := Lib.hid (fill_all rs k).1
      obtain ⟨x, hx⟩ : ∃ x, raw rs k = x := ⟨_, rfl⟩
      rw [hx] at cp hx8
      obtain ⟨y, hy, hy2, hy3⟩ : ∃ y : Nat, (x : Int) % 8 = (y : Int) ∧ (x : Int).tmod 8 = (y : Int) ∧ x % 8 = y := ⟨x % 8, by omega, by rw [Int.tmod_eq_emod_of_nonneg (by omega)]; omega, rfl⟩
      have hy4 : y < 8 := by omega
      have HS : Hid (fillK rs (k + 1) = (fillK rs k).set k (y : Int)) := Lib.hid (by rw [fillK, hx, hy3])
      have HK := Lib.hid hlt
      clear q2 q3 q4 hx hlt hy3
      go_wp2_with ((with_reducible show wpList _ _ _ (⟨none, .store 3 (.tmp 36) (.tmp 35), _, _, _, _⟩ :: _) _ _); refine wpList_store_pj rfl 3 _ _ rfl gp k (by exact rfl) (y : Int) (by exact rfl) (by kernel_rfl) OKK.out RP_wr.out HK.out ?_; intro wz HN1 HO HB)
      go_roundw
      case rel => exact ⟨k + 1, by omega, by go_num, VRow.other RW_wr.out HO.out NE_RW_RP.out, by rw [HS.out]; exact HN1.out, BB_wr.out.trans (HB.out.mono LE_RP.out)⟩
      case measure =>
        simp [intOf]
        omega
    · have d8 : ¬ (k : Int) < 8 := by omega
      obtain rfl : k = 8 := by omega
      clear q2 q3 q4 hlt RW_wr NE_RW_RP HR
      have OK_RP := Lib.hid (fill_all rs 8).1
      have HPR := Lib.hid (fill_prio rs 8)
      generalize fillK rs 8 = ps at *
      go_upto_region 9 with fail
      have RC_0 : Hid (CRow _ wr.heap.size 23 ⟨0, 0⟩) := Lib.hid (alloc_at wr (.cells #[.int .u8 0, .int .u8 0] 23))
      have RP_0 := Lib.hid (RP_wr.out.below ((Below.refl _ _).alloc (Nat.le_refl _) (.cells #[.int .u8 0, .int .u8 0] 23)) RP_wr.out.lt)
      have BB_0 := Lib.hid (BB_wr.out.alloc BB_wr.out.size (.cells #[.int .u8 0, .int .u8 0] 23))
      have LEC := BB_wr.out.size
      have NEP := Nat.ne_of_lt RP_wr.out.lt
      clear RP_wr BB_wr
      obtain ⟨v, hv⟩ : ∃ W, wr.alloc (.cells #[.int .u8 0, .int .u8 0] 23) = W := ⟨_, rfl⟩
      rw [hv] at RC_0 RP_0 BB_0 ⊢
      clear hv
      obtain ⟨gc, hgc⟩ : ∃ g, wr.heap.size = g := ⟨_, rfl⟩
      rw [hgc] at RC_0 LEC NEP ⊢
      clear hgc
      have LE_RC := Lib.hid LEC
      have NE_RP_RC := Lib.hid NEP
      clear LEC NEP
      go_wp2_with fail
      go_loopw [8, 9, 10, 11] (fun pv mv dv iv wx => ∃ (k : Nat) (c : Ic) (mk : Nat), k ≤ len ∧ k ≤ 100 ∧ iv = .int .i64 (k : Int) ∧ pv = .int .u8 (c.p : Int) ∧ mv = .int .u8 (c.m : Int) ∧ dv = .int .u8 (mk : Int) ∧ c.ok ∧ mk < 256 ∧ CRow wx gc 23 c ∧ PRow wx gp ps ∧ Below w.heap.size w wx) (fun _ _ _ iv _ => 100 - (intOf iv).toNat)
      case atStart => exact ⟨0, ⟨0, 0⟩, 0, by omega, by omega, rfl, rfl, rfl, rfl, ⟨by show (0 : Nat) < 256; decide, by show (0 : Nat) < 256; decide⟩, by decide, RC_0.out, RP_0.out, BB_0.out⟩
      case round =>
        clear RC_0 RP_0 BB_0
        obtain ⟨k, c, mk, hk1, hk2, rfl, rfl, rfl, rfl, hok, hmk, q1, q2, q3⟩ := hrel
        have HC := Lib.hid hok
        have RC_u := Lib.hid q1
        have RP_u := Lib.hid q2
        have BB_u := Lib.hid q3
        obtain ⟨u, hu⟩ : ∃ W, wr = W := ⟨_, rfl⟩
        rw [hu] at RC_u RP_u BB_u q3 ⊢
        clear hu q1 q2
        have hcp := hok.p
        have hcm := hok.m
        by_cases hlt : k < len ∧ k < 100
        · obtain ⟨h1, h2⟩ := hlt
          obtain ⟨a, rfl, hab, wh, b, z, hwh, hb8, hz8, hc1, hc2, hc3⟩ := HA.out k h1
          have q4 := (q3.cell (World.block_lt_of_cell? w _ hc1)).trans hc1
          have q5 := cell_off1 ((q3.cell (World.block_lt_of_cell? w _ hc2)).trans hc2)
          have q6 := cell_off2 ((q3.cell (World.block_lt_of_cell? w _ hc3)).trans hc3)
          have d1 : (k : Int) < (len : Int) := by omega
          have d2 : (k : Int) < 100 := by omega
          clear hab hc1 hc2 hc3 q3 hok
          obtain ⟨mm, hm, hm2, hm10⟩ : ∃ m : Nat, (wh : Int) % 10 = (m : Int) ∧ (wh : Int).tmod 10 = (m : Int) ∧ m < 10 := ⟨wh % 10, by omega, by rw [Int.tmod_eq_emod_of_nonneg (by omega)]; omega, by omega⟩
          go_upto_block 4 with fail
          clear hm hm2 hwh
          go_cut [8, 9, 10] (fun pv mv dv wx => ∃ (W : World) (c : Ic) (mk : Nat), W = wx ∧ pv = .int .u8 (c.p : Int) ∧ mv = .int .u8 (c.m : Int) ∧ dv = .int .u8 (mk : Int) ∧ c.ok ∧ mk < 256 ∧ CRow W gc 23 c ∧ PRow W gp ps ∧ Below w.heap.size w W)
          case first =>
            by_cases h012 : mm = 0 ∨ mm = 1 ∨ mm = 2
            · rcases h012 with rfl | rfl | rfl
              · skip
                have K := Lib.hid (fun W => H.request c b W HC.out hb8)
                have HO := Lib.hid (u8_or_nat c.p b hcp hb8)
                have OK2 := Lib.hid (requestI_ok HC.out hb8)
                as_aux_lemma =>
                  go_wp2_with (first
      | ((with_reducible show wpList _ _ _ (⟨none, .store 23 (.tmp 7) (.tmp 139), _, _, _, _⟩ :: _) _ _); refine wpList_store_c2 rfl 23 _ _ rfl (gc) (by exact rfl) (by exact rfl) (by kernel_rfl) 23 RC_u1.out ?_; intro u2 HN HO HB
         have RP_u2 : Hid (PRow u2 (gp) (ps)) := Lib.hid (PRow.other RP_u1.out HO.out (NE_RP_RC.out))
         have RC_u2 : Hid (CRow u2 (gc) 23 (requestI c b)) := HN
         have BB_u2 : Hid (Below w.heap.size w u2) := Lib.hid (BB_u1.out.trans (HB.out.mono LE_RC.out))
         clear HO HB HN RC_u1 RP_u1 BB_u1)
      | (go_at_call 8; have hc := BB_u; clear hc; (with_reducible refine (K.out _).mono ?_); rintro e u1 ⟨rfl, hB⟩
         have RC_u1 : Hid (CRow u1 (gc) 23 (c)) := Lib.hid (CRow.below RC_u.out hB RC_u.out.lt)
         have RP_u1 : Hid (PRow u1 (gp) (ps)) := Lib.hid (PRow.below RP_u.out hB RP_u.out.lt)
         have BB_u1 : Hid (Below w.heap.size w u1) := Lib.hid (BB_u.out.trans (hB.mono BB_u.out.size))
         clear hB RC_u RP_u BB_u)
      | ((with_reducible show wpList _ _ _ (⟨some 137, .load 23 (.tmp 7), _, _, _, _⟩ :: _) _ _); refine wpList_load_c (by rfl) 23 _ rfl (gc) (by exact rfl) _ Try.underlying23 (by kernel_rfl) 23 RC_u.out ?_))
                  go_meet
                  case rel => exact ⟨_, requestI c b, mk, rfl, by rw [HO.out]; rfl, rfl, rfl, OK2.out, hmk, RC_u2.out, RP_u2.out, BB_u2.out⟩
              · skip
                have K := Lib.hid (fun W => H.request c b W HC.out hb8)
                have HO := Lib.hid (u8_or_nat c.p b hcp hb8)
                have OK2 := Lib.hid (requestI_ok HC.out hb8)
                as_aux_lemma =>
                  go_wp2_with (first
      | ((with_reducible show wpList _ _ _ (⟨none, .store 23 (.tmp 7) (.tmp 139), _, _, _, _⟩ :: _) _ _); refine wpList_store_c2 rfl 23 _ _ rfl (gc) (by exact rfl) (by exact rfl) (by kernel_rfl) 23 RC_u1.out ?_; intro u2 HN HO HB
         have RP_u2 : Hid (PRow u2 (gp) (ps)) := Lib.hid (PRow.other RP_u1.out HO.out (NE_RP_RC.out))
         have RC_u2 : Hid (CRow u2 (gc) 23 (requestI c b)) := HN
         have BB_u2 : Hid (Below w.heap.size w u2) := Lib.hid (BB_u1.out.trans (HB.out.mono LE_RC.out))
         clear HO HB HN RC_u1 RP_u1 BB_u1)
      | (go_at_call 8; have hc := BB_u; clear hc; (with_reducible refine (K.out _).mono ?_); rintro e u1 ⟨rfl, hB⟩
         have RC_u1 : Hid (CRow u1 (gc) 23 (c)) := Lib.hid (CRow.below RC_u.out hB RC_u.out.lt)
         have RP_u1 : Hid (PRow u1 (gp) (ps)) := Lib.hid (PRow.below RP_u.out hB RP_u.out.lt)
         have BB_u1 : Hid (Below w.heap.size w u1) := Lib.hid (BB_u.out.trans (hB.mono BB_u.out.size))
         clear hB RC_u RP_u BB_u)
      | ((with_reducible show wpList _ _ _ (⟨some 137, .load 23 (.tmp 7), _, _, _, _⟩ :: _) _ _); refine wpList_load_c (by rfl) 23 _ rfl (gc) (by exact rfl) _ Try.underlying23 (by kernel_rfl) 23 RC_u.out ?_))
                  go_meet
                  case rel => exact ⟨_, requestI c b, mk, rfl, by rw [HO.out]; rfl, rfl, rfl, OK2.out, hmk, RC_u2.out, RP_u2.out, BB_u2.out⟩
              · skip
                have K := Lib.hid (fun W => H.request c b W HC.out hb8)
                have HO := Lib.hid (u8_or_nat c.p b hcp hb8)
                have OK2 := Lib.hid (requestI_ok HC.out hb8)
                as_aux_lemma =>
                  go_wp2_with (first
      | ((with_reducible show wpList _ _ _ (⟨none, .store 23 (.tmp 7) (.tmp 139), _, _, _, _⟩ :: _) _ _); refine wpList_store_c2 rfl 23 _ _ rfl (gc) (by exact rfl) (by exact rfl) (by kernel_rfl) 23 RC_u1.out ?_; intro u2 HN HO HB
         have RP_u2 : Hid (PRow u2 (gp) (ps)) := Lib.hid (PRow.other RP_u1.out HO.out (NE_RP_RC.out))
         have RC_u2 : Hid (CRow u2 (gc) 23 (requestI c b)) := HN
         have BB_u2 : Hid (Below w.heap.size w u2) := Lib.hid (BB_u1.out.trans (HB.out.mono LE_RC.out))
         clear HO HB HN RC_u1 RP_u1 BB_u1)
      | (go_at_call 8; have hc := BB_u; clear hc; (with_reducible refine (K.out _).mono ?_); rintro e u1 ⟨rfl, hB⟩
         have RC_u1 : Hid (CRow u1 (gc) 23 (c)) := Lib.hid (CRow.below RC_u.out hB RC_u.out.lt)
         have RP_u1 : Hid (PRow u1 (gp) (ps)) := Lib.hid (PRow.below RP_u.out hB RP_u.out.lt)
         have BB_u1 : Hid (Below w.heap.size w u1) := Lib.hid (BB_u.out.trans (hB.mono BB_u.out.size))
         clear hB RC_u RP_u BB_u)
      | ((with_reducible show wpList _ _ _ (⟨some 137, .load 23 (.tmp 7), _, _, _, _⟩ :: _) _ _); refine wpList_load_c (by rfl) 23 _ rfl (gc) (by exact rfl) _ Try.underlying23 (by kernel_rfl) 23 RC_u.out ?_))
                  go_meet
                  case rel => exact ⟨_, requestI c b, mk, rfl, by rw [HO.out]; rfl, rfl, rfl, OK2.out, hmk, RC_u2.out, RP_u2.out, BB_u2.out⟩
            by_cases h3 : mm = 3
            · subst h3
              have K : Hid (∀ W : World, Calls Try.prog 9 #[cv c, .int .i64 12, .int .i32 ((b : Int) + 256)] W fun x w' => x = .returned (cv ⟨b, c.p⟩) ∧ Below W.heap.size W w') := Lib.hid (fun W => by
                have h := H.write c 12 ((b : Int) + 256) W HC.out (by decide) (by decide) (by omega) (by omega)
                rw [show writeI c 12 ((b : Int) + 256) = ⟨b, c.p⟩ from by rw [show writeI c 12 ((b : Int) + 256) = ⟨lowN ((b : Int) + 256), c.p⟩ from if_pos rfl, lowN_plus b hb8]] at h
                exact h)
              as_aux_lemma =>
                go_wp2_with (first
      | ((with_reducible show wpList _ _ _ (⟨none, .store 23 (.tmp 7) (.tmp 149), _, _, _, _⟩ :: _) _ _); refine wpList_store_c2 rfl 23 _ _ rfl (gc) (by exact rfl) (by exact rfl) (by kernel_rfl) 23 RC_u1.out ?_; intro u2 HN HO HB
         have RP_u2 : Hid (PRow u2 (gp) (ps)) := Lib.hid (PRow.other RP_u1.out HO.out (NE_RP_RC.out))
         have RC_u2 : Hid (CRow u2 (gc) 23 (⟨b, c.p⟩)) := HN
         have BB_u2 : Hid (Below w.heap.size w u2) := Lib.hid (BB_u1.out.trans (HB.out.mono LE_RC.out))
         clear HO HB HN RC_u1 RP_u1 BB_u1)
      | (go_at_call 9; have hc := BB_u; clear hc; (with_reducible refine (K.out _).mono ?_); rintro e u1 ⟨rfl, hB⟩
         have RC_u1 : Hid (CRow u1 (gc) 23 (c)) := Lib.hid (CRow.below RC_u.out hB RC_u.out.lt)
         have RP_u1 : Hid (PRow u1 (gp) (ps)) := Lib.hid (PRow.below RP_u.out hB RP_u.out.lt)
         have BB_u1 : Hid (Below w.heap.size w u1) := Lib.hid (BB_u.out.trans (hB.mono BB_u.out.size))
         clear hB RC_u RP_u BB_u)
      | ((with_reducible show wpList _ _ _ (⟨some 145, .load 23 (.tmp 7), _, _, _, _⟩ :: _) _ _); refine wpList_load_c (by rfl) 23 _ rfl (gc) (by exact rfl) _ Try.underlying23 (by kernel_rfl) 23 RC_u.out ?_))
                go_meet
                case rel => exact ⟨_, ⟨b, c.p⟩, mk, rfl, rfl, rfl, rfl, ⟨hb8, hcp⟩, hmk, RC_u2.out, RP_u2.out, BB_u2.out⟩
            by_cases h4 : mm = 4
            · subst h4
              have K : Hid (∀ W : World, Calls Try.prog 9 #[cv c, .int .i64 14, .int .i32 (b : Int)] W fun x w' => x = .returned (cv (clearI c b)) ∧ Below W.heap.size W w') := Lib.hid (fun W => by
                have h := H.write c 14 (b : Int) W HC.out (by decide) (by decide) (by omega) (by omega)
                rw [show writeI c 14 (b : Int) = clearI c b from by rw [show writeI c 14 (b : Int) = clearI c (lowN (b : Int)) from (if_neg (by decide)).trans ((if_neg (by decide)).trans (if_pos rfl)), lowN_byte b hb8]] at h
                exact h)
              have HO := Lib.hid (u8_andNot_nat c.p b hcp hb8)
              have OK2 := Lib.hid (clearI_ok HC.out b)
              as_aux_lemma =>
                go_wp2_with (first
      | ((with_reducible show wpList _ _ _ (⟨none, .store 23 (.tmp 7) (.tmp 156), _, _, _, _⟩ :: _) _ _); refine wpList_store_c2 rfl 23 _ _ rfl (gc) (by exact rfl) (by exact rfl) (by kernel_rfl) 23 RC_u1.out ?_; intro u2 HN HO HB
         have RP_u2 : Hid (PRow u2 (gp) (ps)) := Lib.hid (PRow.other RP_u1.out HO.out (NE_RP_RC.out))
         have RC_u2 : Hid (CRow u2 (gc) 23 (clearI c b)) := HN
         have BB_u2 : Hid (Below w.heap.size w u2) := Lib.hid (BB_u1.out.trans (HB.out.mono LE_RC.out))
         clear HO HB HN RC_u1 RP_u1 BB_u1)
      | (go_at_call 9; have hc := BB_u; clear hc; (with_reducible refine (K.out _).mono ?_); rintro e u1 ⟨rfl, hB⟩
         have RC_u1 : Hid (CRow u1 (gc) 23 (c)) := Lib.hid (CRow.below RC_u.out hB RC_u.out.lt)
         have RP_u1 : Hid (PRow u1 (gp) (ps)) := Lib.hid (PRow.below RP_u.out hB RP_u.out.lt)
         have BB_u1 : Hid (Below w.heap.size w u1) := Lib.hid (BB_u.out.trans (hB.mono BB_u.out.size))
         clear hB RC_u RP_u BB_u)
      | ((with_reducible show wpList _ _ _ (⟨some 153, .load 23 (.tmp 7), _, _, _, _⟩ :: _) _ _); refine wpList_load_c (by rfl) 23 _ rfl (gc) (by exact rfl) _ Try.underlying23 (by kernel_rfl) 23 RC_u.out ?_))
                go_meet
                case rel => exact ⟨_, clearI c b, mk, rfl, by rw [HO.out]; rfl, rfl, rfl, OK2.out, hmk, RC_u2.out, RP_u2.out, BB_u2.out⟩
            by_cases h5 : mm = 5
            · subst h5
              as_aux_lemma =>
                go_wp2_with fail
                go_meet
                case rel => exact ⟨_, c, b, rfl, rfl, rfl, rfl, HC.out, hb8, RC_u.out, RP_u.out, BB_u.out⟩
            have e0 : ((mm : Int) == 0) = false := by simp; omega
            have e1 : ((mm : Int) == 1) = false := by simp; omega
            have e2 : ((mm : Int) == 2) = false := by simp; omega
            have e3 : ((mm : Int) == 3) = false := by simp; omega
            have e4 : ((mm : Int) == 4) = false := by simp; omega
            have e5 : ((mm : Int) == 5) = false := by simp; omega
            clear h012 h3 h4 h5
            obtain ⟨lv, hl1, hl2, hl3⟩ : ∃ l : Nat, (z : Int) % 9 = (l : Int) ∧ (z : Int).tmod 9 = (l : Int) ∧ l < 9 := ⟨z % 9, by omega, by rw [Int.tmod_eq_emod_of_nonneg (by omega)]; omega, by omega⟩
            have KC := Lib.hid (fun W => H.choose c ps (lv : Int) 0 mk W HC.out OK_RP.out (by omega) (by omega) (by decide) (by decide) hmk)
            have hbest := choose_best c ps (lv : Int) mk
            have hrg := chooseI_range c ps (lv : Int) 0 mk
            obtain ⟨best, hbb⟩ : ∃ x, chooseI c ps (lv : Int) 0 mk = x := ⟨_, rfl⟩
            rw [hbb] at KC hbest hrg
            clear hbb
            have HSP := Lib.hid (fun j hj => may_split c ps (lv : Int) mk j hj hmk (by omega))
            have HA1 := Lib.hid (u8_and_nat c.p c.m hcp hcm)
            have HA2 := Lib.hid (u8_andNot_nat (c.p &&& c.m) mk (and_lt256 _ _ hcp) hmk)
            have hmy := and_lt256 (c.p &&& c.m) (255 - mk) (and_lt256 _ _ hcp)
            obtain ⟨my, hmye⟩ : ∃ x, (c.p &&& c.m) &&& (255 - mk) = x := ⟨_, rfl⟩
            rw [hmye] at HSP HA2 hmy
            clear hmye
            have HBE := Lib.hid hbest
            clear hbest
            by_cases hb0 : 0 ≤ best
            · obtain ⟨m, rfl⟩ : ∃ m : Nat, best = (m : Int) := ⟨best.toNat, by omega⟩
              have hm8 : m < 8 := by omega
              have HM8 := Lib.hid hm8
              have hdb : decide (0 ≤ (m : Int)) = true := decide_eq_true hb0
              have hbe : mayI c ps (lv : Int) mk m = true ∧ ∀ v, v < 8 → mayI c ps (lv : Int) mk v = true → prio ps v < prio ps m ∨ (prio ps v = prio ps m ∧ m ≤ v) := by
                rcases HBE.out with ⟨e, -⟩ | ⟨m', e, -, h2, h3⟩
                · omega
                · obtain rfl : m' = m := by omega
                  exact ⟨h2, h3⟩
              have HMAY := Lib.hid hbe.1
              have HBEST := Lib.hid hbe.2
              obtain ⟨q, hq⟩ : ∃ q, prio ps m = q := ⟨_, rfl⟩
              have pq := HPR.out m
              rw [hq] at pq
              have HQ := Lib.hid hq
              clear hbe hq HBE hb0 hrg
              as_aux_lemma =>
                rw [hdb] at KC
                go_upto_region 17 with (first
      | (go_at_call 10; have hc := BB_u; clear hc; (with_reducible refine (KC.out _).mono ?_); rintro e u1 ⟨rfl, hB⟩
         have RC_u1 : Hid (CRow u1 (gc) 23 (c)) := Lib.hid (CRow.below RC_u.out hB RC_u.out.lt)
         have RP_u1 : Hid (PRow u1 (gp) (ps)) := Lib.hid (PRow.below RP_u.out hB RP_u.out.lt)
         have BB_u1 : Hid (Below w.heap.size w u1) := Lib.hid (BB_u.out.trans (hB.mono BB_u.out.size))
         clear hB RC_u RP_u BB_u)
      | ((with_reducible show wpList _ _ _ (⟨some 67, .load 24 (.tmp 5), _, _, _, _⟩ :: _) _ _); refine wpList_load_p (by rfl) 24 _ rfl (gp) (by exact rfl) _ _ Try.underlying24 (by kernel_rfl) OK_RP.out RP_u.out ?_)
      | ((with_reducible show wpList _ _ _ (⟨some 66, .load 23 (.tmp 7), _, _, _, _⟩ :: _) _ _); refine wpList_load_c (by rfl) 23 _ rfl (gc) (by exact rfl) _ Try.underlying23 (by kernel_rfl) 23 RC_u.out ?_))
                clear KC
                try clear q6
                have ha1 := HA1.out
                have ha2 := HA2.out
                go_upto_region 18 with fail
                clear ha1 ha2 HA1 HA2
                go_wp2_with fail
                go_loopw [17] (fun iv wx => ∃ j : Nat, j ≤ 8 ∧ iv = .int .i64 (j : Int) ∧ CRow wx gc 23 c ∧ PRow wx gp ps ∧ Below w.heap.size w wx) (fun iv _ => 8 - (intOf iv).toNat)
                case atStart => exact ⟨0, by omega, rfl, RC_u1.out, RP_u1.out, BB_u1.out⟩
                case round =>
                  clear RC_u1 RP_u1 BB_u1
                  obtain ⟨j, hj, rfl, q1, q2, q5⟩ := hrel
                  obtain ⟨t, ht⟩ : ∃ v, wr = v := ⟨_, rfl⟩
                  rw [ht] at q1 q2 q5 ⊢
                  clear ht
                  have RC_t := Lib.hid q1
                  have RP_t := Lib.hid q2
                  have BB_t := Lib.hid q5
                  by_cases hlt : j < 8
                  · have d3 : (j : Int) < 8 := by omega
                    have HJ := Lib.hid hlt
                    have hsh := shr_val my j
                    have hsp := HSP.out j hlt
                    have hI := fun W => run_index_eight gp j W hlt
                    have cj := q2.at OK_RP.out j hlt
                    have pj := HPR.out j
                    obtain ⟨y, hy⟩ : ∃ y, prio ps j = y := ⟨_, rfl⟩
                    rw [hy] at cj pj hsp
                    have HY := Lib.hid hy
                    clear hy q1 q2 q5 hlt
                    rcases hbit : my.testBit j with _ | _
                    · rw [hbit, Bool.false_and] at hsp
                      rw [hbit, if_neg (by decide)] at hsh
                      clear hbit
                      have hmj : ((m : Int) == (j : Int)) = false := by
                        have hne : m ≠ j := fun e => by subst e; rw [HMAY.out] at hsp; cases hsp
                        simp; omega
                      clear hsp
                      as_aux_lemma =>
                        go_wp2_with fail
                        go_roundw
                        case rel => exact ⟨j + 1, by have := HJ.out; omega, by go_num, RC_t.out, RP_t.out, BB_t.out⟩
                        case measure =>
                          simp [intOf]
                          omega
                    · rw [hbit, Bool.true_and] at hsp
                      rw [hbit, if_pos rfl] at hsh
                      clear hbit
                      by_cases hyl : y ≤ (lv : Int)
                      · rw [decide_eq_false (by omega)] at hsp
                        have hmj : ((m : Int) == (j : Int)) = false := by
                          have hne : m ≠ j := fun e => by subst e; rw [HMAY.out] at hsp; cases hsp
                          simp; omega
                        clear hsp
                        as_aux_lemma =>
                          go_wp2_with fail
                          go_roundw
                          case rel => exact ⟨j + 1, by have := HJ.out; omega, by go_num, RC_t.out, RP_t.out, BB_t.out⟩
                          case measure =>
                            simp [intOf]
                            omega
                      · rw [decide_eq_true (by omega)] at hsp
                        have hfo := HBEST.out j HJ.out hsp
                        rw [HY.out, HQ.out] at hfo
                        have HIJ := Lib.hid (fun W => run_index_eight gp j W HJ.out)
                        have HIM := Lib.hid (fun W => run_index_eight gp m W HM8.out)
                        have HCJ : Hid (∀ (W : World) (hr : PRow W gp ps), W.cell? ⟨gp, j, none⟩ = some (.int .i64 y)) := Lib.hid (fun W hr => by have h1 := hr.at OK_RP.out j HJ.out; rw [HY.out] at h1; exact h1)
                        have HCM : Hid (∀ (W : World) (hr : PRow W gp ps), W.cell? ⟨gp, m, none⟩ = some (.int .i64 q)) := Lib.hid (fun W hr => by have h1 := hr.at OK_RP.out m HM8.out; rw [HQ.out] at h1; exact h1)
                        have dgt : ¬ q < y := by omega
                        clear hsp
                        go_upto_region 24 with fail
                        clear hsh hI cj
                        by_cases heq : y = q
                        · have deq : (y == q) = true := by simp [heq]
                          have dlt : ¬ (j : Int) < (m : Int) := by omega
                          clear hfo heq
                          as_aux_lemma =>
                            refine wp_region_noPanic ?_
                            refine wp_region_held_drew (S := fun X => Below t.heap.size t X) (by kernel_rfl) ((Below.refl _ t).drew) (fun hHeld => ?_)
                            refine' take_ 0 rfl (by kernel_rfl) (by kernel_rfl) (by kernel_rfl) (fun _ _ _ h => h) (by rfl) (fun wS hSw => ?_) hHeld ?_
                            rotate_left
                            focus (go_simp; (try with_reducible rfl); done)
                            try simp only [Act.put, List.setIfInBounds_toArray, List.set_cons_zero, List.set_cons_succ]
                            refine' take_ 1 rfl (by kernel_rfl) (by kernel_rfl) (by kernel_rfl) (fun _ _ _ h => h) (by rfl) (fun wS hSw => ?_) hHeld ?_
                            rotate_left
                            focus (go_simp; (try with_reducible rfl); done)
                            try simp only [Act.put, List.setIfInBounds_toArray, List.set_cons_zero, List.set_cons_succ]
                            refine' take_ 2 rfl (by kernel_rfl) (by kernel_rfl) (by kernel_rfl) (fun _ _ _ h => h) (by rfl) (fun wS hSw => ?_) hHeld ?_
                            rotate_left
                            focus (go_simp; (try with_reducible rfl); done)
                            try simp only [Act.put, List.setIfInBounds_toArray, List.set_cons_zero, List.set_cons_succ]
                            refine' take_ 3 rfl (by kernel_rfl) (by kernel_rfl) (by kernel_rfl) (fun _ _ _ h => h) (by rfl) (fun wS hSw => ?_) hHeld ?_
                            rotate_left
                            focus (go_simp; (try with_reducible rfl); done)
                            try simp only [Act.put, List.setIfInBounds_toArray, List.set_cons_zero, List.set_cons_succ]
                            refine' take_ 4 rfl (by kernel_rfl) (by kernel_rfl) (by kernel_rfl) (fun _ _ _ h => h) (by rfl) (fun wS hSw => ?_) hHeld ?_
                            rotate_left
                            focus (have hI := HIJ.out; go_simp; (try with_reducible rfl); done)
                            try simp only [Act.put, List.setIfInBounds_toArray, List.set_cons_zero, List.set_cons_succ]
                            refine' take_ 5 rfl (by kernel_rfl) (by kernel_rfl) (by kernel_rfl) (fun _ _ _ h => h) (by rfl) (fun wS hSw => ?_) hHeld ?_
                            rotate_left
                            focus (have s0 := HCJ.out _ (RP_t.out.below hSw RP_t.out.lt); clear hSw; go_simp; (try with_reducible rfl); done)
                            try simp only [Act.put, List.setIfInBounds_toArray, List.set_cons_zero, List.set_cons_succ]
                            refine' take_ 6 rfl (by kernel_rfl) (by kernel_rfl) (by kernel_rfl) (fun _ _ _ h => h) (by rfl) (fun wS hSw => ?_) hHeld ?_
                            rotate_left
                            focus (go_simp; (try with_reducible rfl); done)
                            try simp only [Act.put, List.setIfInBounds_toArray, List.set_cons_zero, List.set_cons_succ]
                            refine' take_ 7 rfl (by kernel_rfl) (by kernel_rfl) (by kernel_rfl) (fun _ _ _ h => h) (by rfl) (fun wS hSw => ?_) hHeld ?_
                            rotate_left
                            focus (have hI := HIM.out; go_simp; (try with_reducible rfl); done)
                            try simp only [Act.put, List.setIfInBounds_toArray, List.set_cons_zero, List.set_cons_succ]
                            refine' take_ 8 rfl (by kernel_rfl) (by kernel_rfl) (by kernel_rfl) (fun _ _ _ h => h) (by rfl) (fun wS hSw => ?_) hHeld ?_
                            rotate_left
                            focus (have s0 := HCM.out _ (RP_t.out.below hSw RP_t.out.lt); clear hSw; go_simp; (try with_reducible rfl); done)
                            try simp only [Act.put, List.setIfInBounds_toArray, List.set_cons_zero, List.set_cons_succ]
                            refine' take_ 9 rfl (by kernel_rfl) (by kernel_rfl) (by kernel_rfl) (fun _ _ _ h => h) (by rfl) (fun wS hSw => ?_) hHeld ?_
                            rotate_left
                            focus (go_simp; (try with_reducible rfl); done)
                            try simp only [Act.put, List.setIfInBounds_toArray, List.set_cons_zero, List.set_cons_succ]
                            refine' take_ 10 rfl (by kernel_rfl) (by kernel_rfl) (by kernel_rfl) (fun _ _ _ h => h) (by rfl) (fun wS hSw => ?_) hHeld ?_
                            rotate_left
                            focus (go_simp; (try with_reducible rfl); done)
                            try simp only [Act.put, List.setIfInBounds_toArray, List.set_cons_zero, List.set_cons_succ]
                            refine' take_ 11 rfl (by kernel_rfl) (by kernel_rfl) (by kernel_rfl) (fun _ _ _ h => h) (by rfl) (fun wS hSw => ?_) hHeld ?_
                            rotate_left
                            focus (go_simp; (try with_reducible rfl); done)
                            try simp only [Act.put, List.setIfInBounds_toArray, List.set_cons_zero, List.set_cons_succ]
                            refine' take_ 12 rfl (by kernel_rfl) (by kernel_rfl) (by kernel_rfl) (fun _ _ _ h => h) (by rfl) (fun wS hSw => ?_) hHeld ?_
                            rotate_left
                            focus (go_simp; (try with_reducible rfl); done)
                            try simp only [Act.put, List.setIfInBounds_toArray, List.set_cons_zero, List.set_cons_succ]
                            refine' take_ 13 rfl (by kernel_rfl) (by kernel_rfl) (by kernel_rfl) (fun _ _ _ h => h) (by rfl) (fun wS hSw => ?_) hHeld ?_
                            rotate_left
                            focus (have hI := HIJ.out; go_simp; (try with_reducible rfl); done)
                            try simp only [Act.put, List.setIfInBounds_toArray, List.set_cons_zero, List.set_cons_succ]
                            refine' take_ 14 rfl (by kernel_rfl) (by kernel_rfl) (by kernel_rfl) (fun _ _ _ h => h) (by rfl) (fun wS hSw => ?_) hHeld ?_
                            rotate_left
                            focus (have s0 := HCJ.out _ (RP_t.out.below hSw RP_t.out.lt); clear hSw; go_simp; (try with_reducible rfl); done)
                            try simp only [Act.put, List.setIfInBounds_toArray, List.set_cons_zero, List.set_cons_succ]
                            refine' take_ 15 rfl (by kernel_rfl) (by kernel_rfl) (by kernel_rfl) (fun _ _ _ h => h) (by rfl) (fun wS hSw => ?_) hHeld ?_
                            rotate_left
                            focus (go_simp; (try with_reducible rfl); done)
                            try simp only [Act.put, List.setIfInBounds_toArray, List.set_cons_zero, List.set_cons_succ]
                            refine' take_ 16 rfl (by kernel_rfl) (by kernel_rfl) (by kernel_rfl) (fun _ _ _ h => h) (by rfl) (fun wS hSw => ?_) hHeld ?_
                            rotate_left
                            focus (have hI := HIM.out; go_simp; (try with_reducible rfl); done)
                            try simp only [Act.put, List.setIfInBounds_toArray, List.set_cons_zero, List.set_cons_succ]
                            refine' take_ 17 rfl (by kernel_rfl) (by kernel_rfl) (by kernel_rfl) (fun _ _ _ h => h) (by rfl) (fun wS hSw => ?_) hHeld ?_
                            rotate_left
                            focus (have s0 := HCM.out _ (RP_t.out.below hSw RP_t.out.lt); clear hSw; go_simp; (try with_reducible rfl); done)
                            try simp only [Act.put, List.setIfInBounds_toArray, List.set_cons_zero, List.set_cons_succ]
                            refine' take_ 18 rfl (by kernel_rfl) (by kernel_rfl) (by kernel_rfl) (fun _ _ _ h => h) (by rfl) (fun wS hSw => ?_) hHeld ?_
                            rotate_left
                            focus (go_simp; (try with_reducible rfl); done)
                            try simp only [Act.put, List.setIfInBounds_toArray, List.set_cons_zero, List.set_cons_succ]
                            refine' take_ 19 rfl (by kernel_rfl) (by kernel_rfl) (by kernel_rfl) (fun _ _ _ h => h) (by rfl) (fun wS hSw => ?_) hHeld ?_
                            rotate_left
                            focus (go_simp; (try with_reducible rfl); done)
                            try simp only [Act.put, List.setIfInBounds_toArray, List.set_cons_zero, List.set_cons_succ]
                            refine' take_ 20 rfl (by kernel_rfl) (by kernel_rfl) (by kernel_rfl) (fun _ _ _ h => h) (by rfl) (fun wS hSw => ?_) hHeld ?_
                            rotate_left
                            focus (go_simp; (try with_reducible rfl); done)
                            try simp only [Act.put, List.setIfInBounds_toArray, List.set_cons_zero, List.set_cons_succ]
                            refine' take_ 21 rfl (by kernel_rfl) (by kernel_rfl) (by kernel_rfl) (fun _ _ _ h => h) (by rfl) (fun wS hSw => ?_) hHeld ?_
                            rotate_left
                            focus (go_simp; (try with_reducible rfl); done)
                            try simp only [Act.put, List.setIfInBounds_toArray, List.set_cons_zero, List.set_cons_succ]
                            refine' take_ 22 rfl (by kernel_rfl) (by kernel_rfl) (by kernel_rfl) (fun _ _ _ h => h) (by rfl) (fun wS hSw => ?_) hHeld ?_
                            rotate_left
                            focus (go_simp; (try with_reducible rfl); done)
                            try simp only [Act.put, List.setIfInBounds_toArray, List.set_cons_zero, List.set_cons_succ]
                            refine' take_ 23 rfl (by kernel_rfl) (by kernel_rfl) (by kernel_rfl) (fun _ _ _ h => h) (by rfl) (fun wS hSw => ?_) hHeld ?_
                            rotate_left
                            focus (go_simp; (try with_reducible rfl); done)
                            try simp only [Act.put, List.setIfInBounds_toArray, List.set_cons_zero, List.set_cons_succ]
                            refine' take_ 24 rfl (by kernel_rfl) (by kernel_rfl) (by kernel_rfl) (fun _ _ _ h => h) (by rfl) (fun wS hSw => ?_) hHeld ?_
                            rotate_left
                            focus (go_simp; (try with_reducible rfl); done)
                            try simp only [Act.put, List.setIfInBounds_toArray, List.set_cons_zero, List.set_cons_succ]
                            refine wpAnyH_done (by kernel_rfl) ?_ _
                            refine NoPanic.normal ?_
                            have RC_t1 : Hid (CRow _ gc 23 c) := Lib.hid (RC_t.out.below hHeld RC_t.out.lt)
                            have RP_t1 := Lib.hid (RP_t.out.below hHeld RP_t.out.lt)
                            have BB_t1 := Lib.hid (BB_t.out.trans (hHeld.mono BB_t.out.size))
                            clear hHeld RC_t RP_t BB_t
                            obtain ⟨t1, ht1⟩ : ∃ W, t.drew = W := ⟨_, rfl⟩
                            rw [ht1] at RC_t1 RP_t1 BB_t1 ⊢
                            clear ht1
                            go_wp2_with fail
                            go_roundw
                            case rel => exact ⟨j + 1, by have := HJ.out; omega, by go_num, RC_t1.out, RP_t1.out, BB_t1.out⟩
                            case measure =>
                              simp [intOf]
                              omega
                        · have deq : (y == q) = false := by simpa using heq
                          clear hfo heq
                          as_aux_lemma =>
                            refine wp_region_noPanic ?_
                            refine wp_region_held_drew (S := fun X => Below t.heap.size t X) (by kernel_rfl) ((Below.refl _ t).drew) (fun hHeld => ?_)
                            refine' take_ 0 rfl (by kernel_rfl) (by kernel_rfl) (by kernel_rfl) (fun _ _ _ h => h) (by rfl) (fun wS hSw => ?_) hHeld ?_
                            rotate_left
                            focus (go_simp; (try with_reducible rfl); done)
                            try simp only [Act.put, List.setIfInBounds_toArray, List.set_cons_zero, List.set_cons_succ]
                            refine' take_ 1 rfl (by kernel_rfl) (by kernel_rfl) (by kernel_rfl) (fun _ _ _ h => h) (by rfl) (fun wS hSw => ?_) hHeld ?_
                            rotate_left
                            focus (go_simp; (try with_reducible rfl); done)
                            try simp only [Act.put, List.setIfInBounds_toArray, List.set_cons_zero, List.set_cons_succ]
                            refine' take_ 2 rfl (by kernel_rfl) (by kernel_rfl) (by kernel_rfl) (fun _ _ _ h => h) (by rfl) (fun wS hSw => ?_) hHeld ?_
                            rotate_left
                            focus (go_simp; (try with_reducible rfl); done)
                            try simp only [Act.put, List.setIfInBounds_toArray, List.set_cons_zero, List.set_cons_succ]
                            refine' take_ 3 rfl (by kernel_rfl) (by kernel_rfl) (by kernel_rfl) (fun _ _ _ h => h) (by rfl) (fun wS hSw => ?_) hHeld ?_
                            rotate_left
                            focus (go_simp; (try with_reducible rfl); done)
                            try simp only [Act.put, List.setIfInBounds_toArray, List.set_cons_zero, List.set_cons_succ]
                            refine' take_ 4 rfl (by kernel_rfl) (by kernel_rfl) (by kernel_rfl) (fun _ _ _ h => h) (by rfl) (fun wS hSw => ?_) hHeld ?_
                            rotate_left
                            focus (have hI := HIJ.out; go_simp; (try with_reducible rfl); done)
                            try simp only [Act.put, List.setIfInBounds_toArray, List.set_cons_zero, List.set_cons_succ]
                            refine' take_ 5 rfl (by kernel_rfl) (by kernel_rfl) (by kernel_rfl) (fun _ _ _ h => h) (by rfl) (fun wS hSw => ?_) hHeld ?_
                            rotate_left
                            focus (have s0 := HCJ.out _ (RP_t.out.below hSw RP_t.out.lt); clear hSw; go_simp; (try with_reducible rfl); done)
                            try simp only [Act.put, List.setIfInBounds_toArray, List.set_cons_zero, List.set_cons_succ]
                            refine' take_ 6 rfl (by kernel_rfl) (by kernel_rfl) (by kernel_rfl) (fun _ _ _ h => h) (by rfl) (fun wS hSw => ?_) hHeld ?_
                            rotate_left
                            focus (go_simp; (try with_reducible rfl); done)
                            try simp only [Act.put, List.setIfInBounds_toArray, List.set_cons_zero, List.set_cons_succ]
                            refine' take_ 7 rfl (by kernel_rfl) (by kernel_rfl) (by kernel_rfl) (fun _ _ _ h => h) (by rfl) (fun wS hSw => ?_) hHeld ?_
                            rotate_left
                            focus (have hI := HIM.out; go_simp; (try with_reducible rfl); done)
                            try simp only [Act.put, List.setIfInBounds_toArray, List.set_cons_zero, List.set_cons_succ]
                            refine' take_ 8 rfl (by kernel_rfl) (by kernel_rfl) (by kernel_rfl) (fun _ _ _ h => h) (by rfl) (fun wS hSw => ?_) hHeld ?_
                            rotate_left
                            focus (have s0 := HCM.out _ (RP_t.out.below hSw RP_t.out.lt); clear hSw; go_simp; (try with_reducible rfl); done)
                            try simp only [Act.put, List.setIfInBounds_toArray, List.set_cons_zero, List.set_cons_succ]
                            refine' take_ 9 rfl (by kernel_rfl) (by kernel_rfl) (by kernel_rfl) (fun _ _ _ h => h) (by rfl) (fun wS hSw => ?_) hHeld ?_
                            rotate_left
                            focus (go_simp; (try with_reducible rfl); done)
                            try simp only [Act.put, List.setIfInBounds_toArray, List.set_cons_zero, List.set_cons_succ]
                            refine' take_ 10 rfl (by kernel_rfl) (by kernel_rfl) (by kernel_rfl) (fun _ _ _ h => h) (by rfl) (fun wS hSw => ?_) hHeld ?_
                            rotate_left
                            focus (go_simp; (try with_reducible rfl); done)
                            try simp only [Act.put, List.setIfInBounds_toArray, List.set_cons_zero, List.set_cons_succ]
                            refine' take_ 11 rfl (by kernel_rfl) (by kernel_rfl) (by kernel_rfl) (fun _ _ _ h => h) (by rfl) (fun wS hSw => ?_) hHeld ?_
                            rotate_left
                            focus (go_simp; (try with_reducible rfl); done)
                            try simp only [Act.put, List.setIfInBounds_toArray, List.set_cons_zero, List.set_cons_succ]
                            refine' take_ 12 rfl (by kernel_rfl) (by kernel_rfl) (by kernel_rfl) (fun _ _ _ h => h) (by rfl) (fun wS hSw => ?_) hHeld ?_
                            rotate_left
                            focus (go_simp; (try with_reducible rfl); done)
                            try simp only [Act.put, List.setIfInBounds_toArray, List.set_cons_zero, List.set_cons_succ]
                            refine' take_ 13 rfl (by kernel_rfl) (by kernel_rfl) (by kernel_rfl) (fun _ _ _ h => h) (by rfl) (fun wS hSw => ?_) hHeld ?_
                            rotate_left
                            focus (have hI := HIJ.out; go_simp; (try with_reducible rfl); done)
                            try simp only [Act.put, List.setIfInBounds_toArray, List.set_cons_zero, List.set_cons_succ]
                            refine' take_ 14 rfl (by kernel_rfl) (by kernel_rfl) (by kernel_rfl) (fun _ _ _ h => h) (by rfl) (fun wS hSw => ?_) hHeld ?_
                            rotate_left
                            focus (have s0 := HCJ.out _ (RP_t.out.below hSw RP_t.out.lt); clear hSw; go_simp; (try with_reducible rfl); done)
                            try simp only [Act.put, List.setIfInBounds_toArray, List.set_cons_zero, List.set_cons_succ]
                            refine' take_ 15 rfl (by kernel_rfl) (by kernel_rfl) (by kernel_rfl) (fun _ _ _ h => h) (by rfl) (fun wS hSw => ?_) hHeld ?_
                            rotate_left
                            focus (go_simp; (try with_reducible rfl); done)
                            try simp only [Act.put, List.setIfInBounds_toArray, List.set_cons_zero, List.set_cons_succ]
                            refine' take_ 16 rfl (by kernel_rfl) (by kernel_rfl) (by kernel_rfl) (fun _ _ _ h => h) (by rfl) (fun wS hSw => ?_) hHeld ?_
                            rotate_left
                            focus (have hI := HIM.out; go_simp; (try with_reducible rfl); done)
                            try simp only [Act.put, List.setIfInBounds_toArray, List.set_cons_zero, List.set_cons_succ]
                            refine' take_ 17 rfl (by kernel_rfl) (by kernel_rfl) (by kernel_rfl) (fun _ _ _ h => h) (by rfl) (fun wS hSw => ?_) hHeld ?_
                            rotate_left
                            focus (have s0 := HCM.out _ (RP_t.out.below hSw RP_t.out.lt); clear hSw; go_simp; (try with_reducible rfl); done)
                            try simp only [Act.put, List.setIfInBounds_toArray, List.set_cons_zero, List.set_cons_succ]
                            refine' take_ 18 rfl (by kernel_rfl) (by kernel_rfl) (by kernel_rfl) (fun _ _ _ h => h) (by rfl) (fun wS hSw => ?_) hHeld ?_
                            rotate_left
                            focus (go_simp; (try with_reducible rfl); done)
                            try simp only [Act.put, List.setIfInBounds_toArray, List.set_cons_zero, List.set_cons_succ]
                            refine' take_ 19 rfl (by kernel_rfl) (by kernel_rfl) (by kernel_rfl) (fun _ _ _ h => h) (by rfl) (fun wS hSw => ?_) hHeld ?_
                            rotate_left
                            focus (go_simp; (try with_reducible rfl); done)
                            try simp only [Act.put, List.setIfInBounds_toArray, List.set_cons_zero, List.set_cons_succ]
                            refine' pass_ 20 rfl (by kernel_rfl) (by kernel_rfl) (by kernel_rfl) (fun _ _ _ h => h) (by rfl) hHeld ?_
                            try simp only [Act.put, List.setIfInBounds_toArray, List.set_cons_zero, List.set_cons_succ]
                            refine' pass_ 21 rfl (by kernel_rfl) (by kernel_rfl) (by kernel_rfl) (fun _ _ _ h => h) (by rfl) hHeld ?_
                            try simp only [Act.put, List.setIfInBounds_toArray, List.set_cons_zero, List.set_cons_succ]
                            refine' pass_ 22 rfl (by kernel_rfl) (by kernel_rfl) (by kernel_rfl) (fun _ _ _ h => h) (by rfl) hHeld ?_
                            try simp only [Act.put, List.setIfInBounds_toArray, List.set_cons_zero, List.set_cons_succ]
                            refine' take_ 23 rfl (by kernel_rfl) (by kernel_rfl) (by kernel_rfl) (fun _ _ _ h => h) (by rfl) (fun wS hSw => ?_) hHeld ?_
                            rotate_left
                            focus (go_simp; (try with_reducible rfl); done)
                            try simp only [Act.put, List.setIfInBounds_toArray, List.set_cons_zero, List.set_cons_succ]
                            refine' take_ 24 rfl (by kernel_rfl) (by kernel_rfl) (by kernel_rfl) (fun _ _ _ h => h) (by rfl) (fun wS hSw => ?_) hHeld ?_
                            rotate_left
                            focus (go_simp; (try with_reducible rfl); done)
                            try simp only [Act.put, List.setIfInBounds_toArray, List.set_cons_zero, List.set_cons_succ]
                            refine wpAnyH_done (by kernel_rfl) ?_ _
                            refine NoPanic.normal ?_
                            have RC_t1 : Hid (CRow _ gc 23 c) := Lib.hid (RC_t.out.below hHeld RC_t.out.lt)
                            have RP_t1 := Lib.hid (RP_t.out.below hHeld RP_t.out.lt)
                            have BB_t1 := Lib.hid (BB_t.out.trans (hHeld.mono BB_t.out.size))
                            clear hHeld RC_t RP_t BB_t
                            obtain ⟨t1, ht1⟩ : ∃ W, t.drew = W := ⟨_, rfl⟩
                            rw [ht1] at RC_t1 RP_t1 BB_t1 ⊢
                            clear ht1
                            go_wp2_with fail
                            go_roundw
                            case rel => exact ⟨j + 1, by have := HJ.out; omega, by go_num, RC_t1.out, RP_t1.out, BB_t1.out⟩
                            case measure =>
                              simp [intOf]
                              omega
                  · have d3 : ¬ (j : Int) < 8 := by omega
                    clear q1 q2 q5 hlt
                    have KT : Hid (∀ W : World, Calls Try.prog 11 #[cv c, .int .i64 (m : Int)] W fun x w' => x = .returned (cv (clearI c (2 ^ m))) ∧ Below W.heap.size W w') := Lib.hid (fun W => by
                      have h := H.taken c (m : Int) W HC.out (by omega) (by omega)
                      rw [show takenI c (m : Int) = clearI c (2 ^ m) from if_pos ⟨by omega, by have := HM8.out; omega⟩] at h
                      exact h)
                    have hs1 := shl_one m HM8.out
                    have hs2 := andNot_pow c.p m hcp HM8.out
                    have OK2 := Lib.hid (clearI_ok HC.out (2 ^ m))
                    as_aux_lemma =>
                      go_wp2_with (first
      | ((with_reducible show wpList _ _ _ (⟨none, .store 23 (.tmp 7) (.tmp 128), _, _, _, _⟩ :: _) _ _); refine wpList_store_c2 rfl 23 _ _ rfl (gc) (by exact rfl) (by exact rfl) (by kernel_rfl) 23 RC_t1.out ?_; intro t2 HN HO HB
         have RP_t2 : Hid (PRow t2 (gp) (ps)) := Lib.hid (PRow.other RP_t1.out HO.out (NE_RP_RC.out))
         have RC_t2 : Hid (CRow t2 (gc) 23 (clearI c (2 ^ m))) := HN
         have BB_t2 : Hid (Below w.heap.size w t2) := Lib.hid (BB_t1.out.trans (HB.out.mono LE_RC.out))
         clear HO HB HN RC_t1 RP_t1 BB_t1)
      | (go_at_call 11; have hc := BB_t; clear hc; (with_reducible refine (KT.out _).mono ?_); rintro e t1 ⟨rfl, hB⟩
         have RC_t1 : Hid (CRow t1 (gc) 23 (c)) := Lib.hid (CRow.below RC_t.out hB RC_t.out.lt)
         have RP_t1 : Hid (PRow t1 (gp) (ps)) := Lib.hid (PRow.below RP_t.out hB RP_t.out.lt)
         have BB_t1 : Hid (Below w.heap.size w t1) := Lib.hid (BB_t.out.trans (hB.mono BB_t.out.size))
         clear hB RC_t RP_t BB_t)
      | ((with_reducible show wpList _ _ _ (⟨some 126, .load 23 (.tmp 7), _, _, _, _⟩ :: _) _ _); refine wpList_load_c (by rfl) 23 _ rfl (gc) (by exact rfl) _ Try.underlying23 (by kernel_rfl) 23 RC_t.out ?_))
                      go_meet
                      case rel => exact ⟨_, clearI c (2 ^ m), mk, rfl, by first | rfl | (rw [hs2]; rfl), rfl, rfl, OK2.out, hmk, RC_t2.out, RP_t2.out, BB_t2.out⟩
            · obtain rfl : best = -1 := by omega
              have hdb : decide (0 ≤ (-1 : Int)) = false := by decide
              have HNONE : Hid (∀ v, v < 8 → mayI c ps (lv : Int) mk v = false) := Lib.hid (by
                rcases HBE.out with ⟨-, h⟩ | ⟨m', e, -⟩
                · exact h
                · omega)
              clear HBE hb0 hrg
              as_aux_lemma =>
                rw [hdb] at KC
                go_upto_region 17 with (first
      | (go_at_call 10; have hc := BB_u; clear hc; (with_reducible refine (KC.out _).mono ?_); rintro e u1 ⟨rfl, hB⟩
         have RC_u1 : Hid (CRow u1 (gc) 23 (c)) := Lib.hid (CRow.below RC_u.out hB RC_u.out.lt)
         have RP_u1 : Hid (PRow u1 (gp) (ps)) := Lib.hid (PRow.below RP_u.out hB RP_u.out.lt)
         have BB_u1 : Hid (Below w.heap.size w u1) := Lib.hid (BB_u.out.trans (hB.mono BB_u.out.size))
         clear hB RC_u RP_u BB_u)
      | ((with_reducible show wpList _ _ _ (⟨some 67, .load 24 (.tmp 5), _, _, _, _⟩ :: _) _ _); refine wpList_load_p (by rfl) 24 _ rfl (gp) (by exact rfl) _ _ Try.underlying24 (by kernel_rfl) OK_RP.out RP_u.out ?_)
      | ((with_reducible show wpList _ _ _ (⟨some 66, .load 23 (.tmp 7), _, _, _, _⟩ :: _) _ _); refine wpList_load_c (by rfl) 23 _ rfl (gc) (by exact rfl) _ Try.underlying23 (by kernel_rfl) 23 RC_u.out ?_))
                clear KC
                try clear q6
                have ha1 := HA1.out
                have ha2 := HA2.out
                go_upto_region 18 with fail
                clear ha1 ha2 HA1 HA2
                go_wp2_with fail
                go_loopw [17] (fun iv wx => ∃ j : Nat, j ≤ 8 ∧ iv = .int .i64 (j : Int) ∧ CRow wx gc 23 c ∧ PRow wx gp ps ∧ Below w.heap.size w wx) (fun iv _ => 8 - (intOf iv).toNat)
                case atStart => exact ⟨0, by omega, rfl, RC_u1.out, RP_u1.out, BB_u1.out⟩
                case round =>
                  clear RC_u1 RP_u1 BB_u1
                  obtain ⟨j, hj, rfl, q1, q2, q5⟩ := hrel
                  obtain ⟨t, ht⟩ : ∃ v, wr = v := ⟨_, rfl⟩
                  rw [ht] at q1 q2 q5 ⊢
                  clear ht
                  have RC_t := Lib.hid q1
                  have RP_t := Lib.hid q2
                  have BB_t := Lib.hid q5
                  by_cases hlt : j < 8
                  · have d3 : (j : Int) < 8 := by omega
                    have HJ := Lib.hid hlt
                    have hsh := shr_val my j
                    have hsp := HSP.out j hlt
                    have hI := fun W => run_index_eight gp j W hlt
                    have cj := q2.at OK_RP.out j hlt
                    have pj := HPR.out j
                    obtain ⟨y, hy⟩ : ∃ y, prio ps j = y := ⟨_, rfl⟩
                    rw [hy] at cj pj hsp
                    have HY := Lib.hid hy
                    clear hy q1 q2 q5 hlt
                    rcases hbit : my.testBit j with _ | _
                    · rw [hbit, Bool.false_and] at hsp
                      rw [hbit, if_neg (by decide)] at hsh
                      clear hbit
                      clear hsp
                      as_aux_lemma =>
                        go_wp2_with fail
                        go_roundw
                        case rel => exact ⟨j + 1, by have := HJ.out; omega, by go_num, RC_t.out, RP_t.out, BB_t.out⟩
                        case measure =>
                          simp [intOf]
                          omega
                    · rw [hbit, Bool.true_and] at hsp
                      rw [hbit, if_pos rfl] at hsh
                      clear hbit
                      by_cases hyl : y ≤ (lv : Int)
                      · rw [decide_eq_false (by omega)] at hsp
                        clear hsp
                        as_aux_lemma =>
                          go_wp2_with fail
                          go_roundw
                          case rel => exact ⟨j + 1, by have := HJ.out; omega, by go_num, RC_t.out, RP_t.out, BB_t.out⟩
                          case measure =>
                            simp [intOf]
                            omega
                      · rw [decide_eq_true (by omega)] at hsp
                        exfalso
                        have h1 := HNONE.out j HJ.out
                        rw [hsp] at h1
                        cases h1
                  · have d3 : ¬ (j : Int) < 8 := by omega
                    clear q1 q2 q5 hlt
                    as_aux_lemma =>
                      go_wp2_with fail
                      go_meet
                      case rel => exact ⟨_, c, mk, rfl, rfl, rfl, rfl, HC.out, hmk, RC_t.out, RP_t.out, BB_t.out⟩
          case rest =>
            clear RC_u RP_u BB_u HC hcp hcm hmk q4 q5 q6
            obtain ⟨W, c, mk, rfl, rfl, rfl, rfl, hok, hmk, q1, q2, q3⟩ := hcut
            have RC_W := Lib.hid q1
            have RP_W := Lib.hid q2
            have BB_W := Lib.hid q3
            have HC := Lib.hid hok
            have hwp : wrap32 (c.p : Int) = (c.p : Int) := by have := hok.p; unfold wrap32; omega
            have hwm : wrap32 (c.m : Int) = (c.m : Int) := by have := hok.m; unfold wrap32; omega
            have K1 : Hid (∀ X : World, Calls Try.prog 12 #[cv c, .int .i64 13] X fun x w' => x = .returned (.int .i32 (c.p : Int)) ∧ Below X.heap.size X w') := Lib.hid (fun X => H.peek c 13 X HC.out (by decide) (by decide))
            have K2 : Hid (∀ X : World, Calls Try.prog 12 #[cv c, .int .i64 12] X fun x w' => x = .returned (.int .i32 (c.m : Int)) ∧ Below X.heap.size X w') := Lib.hid (fun X => H.peek c 12 X HC.out (by decide) (by decide))
            have K3 : Hid (∀ X : World, Calls Try.prog 12 #[cv c, .int .i64 14] X fun x w' => x = .returned (.int .i32 0) ∧ Below X.heap.size X w') := Lib.hid (fun X => H.peek c 14 X HC.out (by decide) (by decide))
            clear q1 q2 q3
            as_aux_lemma =>
              go_wp2_with (first
      | (go_at_call 12; have hc := BB_W2; clear hc; (with_reducible refine (K3.out _).mono ?_); rintro e W3 ⟨rfl, hB⟩
         have RC_W3 : Hid (CRow W3 (gc) 23 (c)) := Lib.hid (CRow.below RC_W2.out hB RC_W2.out.lt)
         have RP_W3 : Hid (PRow W3 (gp) (ps)) := Lib.hid (PRow.below RP_W2.out hB RP_W2.out.lt)
         have BB_W3 : Hid (Below w.heap.size w W3) := Lib.hid (BB_W2.out.trans (hB.mono BB_W2.out.size))
         clear hB RC_W2 RP_W2 BB_W2)
      | ((with_reducible show wpList _ _ _ (⟨some 176, .load 23 (.tmp 7), _, _, _, _⟩ :: _) _ _); refine wpList_load_c (by kernel_rfl) 23 _ rfl (gc) (by exact rfl) _ Try.underlying23 (by kernel_rfl) 23 RC_W2.out ?_)
      | (go_at_call 12; have hc := BB_W1; clear hc; (with_reducible refine (K2.out _).mono ?_); rintro e W2 ⟨rfl, hB⟩
         have RC_W2 : Hid (CRow W2 (gc) 23 (c)) := Lib.hid (CRow.below RC_W1.out hB RC_W1.out.lt)
         have RP_W2 : Hid (PRow W2 (gp) (ps)) := Lib.hid (PRow.below RP_W1.out hB RP_W1.out.lt)
         have BB_W2 : Hid (Below w.heap.size w W2) := Lib.hid (BB_W1.out.trans (hB.mono BB_W1.out.size))
         clear hB RC_W1 RP_W1 BB_W1)
      | ((with_reducible show wpList _ _ _ (⟨some 169, .load 23 (.tmp 7), _, _, _, _⟩ :: _) _ _); refine wpList_load_c (by kernel_rfl) 23 _ rfl (gc) (by exact rfl) _ Try.underlying23 (by kernel_rfl) 23 RC_W1.out ?_)
      | (go_at_call 12; have hc := BB_W; clear hc; (with_reducible refine (K1.out _).mono ?_); rintro e W1 ⟨rfl, hB⟩
         have RC_W1 : Hid (CRow W1 (gc) 23 (c)) := Lib.hid (CRow.below RC_W.out hB RC_W.out.lt)
         have RP_W1 : Hid (PRow W1 (gp) (ps)) := Lib.hid (PRow.below RP_W.out hB RP_W.out.lt)
         have BB_W1 : Hid (Below w.heap.size w W1) := Lib.hid (BB_W.out.trans (hB.mono BB_W.out.size))
         clear hB RC_W RP_W BB_W)
      | ((with_reducible show wpList _ _ _ (⟨some 163, .load 23 (.tmp 7), _, _, _, _⟩ :: _) _ _); refine wpList_load_c (by rfl) 23 _ rfl (gc) (by exact rfl) _ Try.underlying23 (by kernel_rfl) 23 RC_W.out ?_))
              go_roundw
              case rel => exact ⟨k + 1, c, mk, by omega, by omega, by go_num, rfl, rfl, rfl, HC.out, hmk, RC_W3.out, RP_W3.out, BB_W3.out⟩
              case measure =>
                simp [intOf]
                omega
        · have hd : ¬ ((k : Int) < (len : Int)) ∨ ((k : Int) < (len : Int) ∧ ¬ (k : Int) < 100) := by omega
          clear hlt q3 hok
          have KW2 : Hid (∀ W : World, Calls Try.prog 9 #[cv c, .int .i64 12, .int .i32 255] W fun x w' => x = .returned (cv ⟨255, c.p⟩) ∧ Below W.heap.size W w') := Lib.hid (fun W => H.write c 12 255 W HC.out (by decide) (by decide) (by decide) (by decide))
          obtain ⟨lf0, hlf0⟩ : ∃ x, c.p = x := ⟨_, rfl⟩
          rw [hlf0] at KW2 hcp ⊢
          clear hlf0
          rcases hd with d1 | ⟨d1, d2⟩
          · skip
            as_aux_lemma =>
              go_wp2_with (first
      | ((with_reducible show wpList _ _ _ (⟨none, .store 23 (.tmp 7) (.tmp 181), _, _, _, _⟩ :: _) _ _); refine wpList_store_c2 rfl 23 _ _ rfl (gc) (by exact rfl) (by exact rfl) (by kernel_rfl) 23 RC_u1.out ?_; intro u2 HN HO HB
         have RP_u2 : Hid (PRow u2 (gp) (ps)) := Lib.hid (PRow.other RP_u1.out HO.out (NE_RP_RC.out))
         have RC_u2 : Hid (CRow u2 (gc) 23 (⟨255, lf0⟩)) := HN
         have BB_u2 : Hid (Below w.heap.size w u2) := Lib.hid (BB_u1.out.trans (HB.out.mono LE_RC.out))
         clear HO HB HN RC_u1 RP_u1 BB_u1)
      | (go_at_call 9; have hc := BB_u; clear hc; (with_reducible refine (KW2.out _).mono ?_); rintro e u1 ⟨rfl, hB⟩
         have RC_u1 : Hid (CRow u1 (gc) 23 (c)) := Lib.hid (CRow.below RC_u.out hB RC_u.out.lt)
         have RP_u1 : Hid (PRow u1 (gp) (ps)) := Lib.hid (PRow.below RP_u.out hB RP_u.out.lt)
         have BB_u1 : Hid (Below w.heap.size w u1) := Lib.hid (BB_u.out.trans (hB.mono BB_u.out.size))
         clear hB RC_u RP_u BB_u)
      | ((with_reducible show wpList _ _ _ (⟨some 180, .load 23 (.tmp 7), _, _, _, _⟩ :: _) _ _); refine wpList_load_c (by rfl) 23 _ rfl (gc) (by exact rfl) _ Try.underlying23 (by kernel_rfl) 23 RC_u.out ?_))
              go_loopw [18, 19, 20] (fun lv fv iv wx => ∃ (i lf : Nat) (la : Int), i ≤ 8 ∧ iv = .int .i64 (i : Int) ∧ fv = .int .u8 (lf : Int) ∧ lv = .int .i64 la ∧ lf < 256 ∧ cnt lf + i ≤ 8 ∧ 0 ≤ la ∧ la ≤ 9 ∧ (∀ v, v < 8 → mayI ⟨255, lf⟩ ps 0 0 v = true → prio ps v ≤ la) ∧ CRow wx gc 23 ⟨255, lf⟩ ∧ PRow wx gp ps ∧ Below w.heap.size w wx) (fun _ _ iv _ => 9 - (intOf iv).toNat)
              case atStart => exact ⟨0, lf0, 9, by omega, rfl, rfl, rfl, hcp, cnt_le lf0, by decide, by decide, fun v hv _ => by have := HPR.out v; omega, RC_u2.out, RP_u2.out, BB_u2.out⟩
              case round =>
                clear RC_u2 RP_u2 BB_u2 hcp
                obtain ⟨i, lf, la, hi, rfl, rfl, rfl, hlf, hcnt, hla, hla2, hmx, q1, q2, q3⟩ := hrel
                obtain ⟨t, ht⟩ : ∃ v, wr = v := ⟨_, rfl⟩
                rw [ht] at q1 q2 q3 ⊢
                clear ht
                have RC_t := Lib.hid q1
                have RP_t := Lib.hid q2
                have BB_t := Lib.hid q3
                have hok2 : Ic.ok ⟨255, lf⟩ := ⟨by show (255 : Nat) < 256; decide, hlf⟩
                have HC2 := Lib.hid hok2
                have HMX := Lib.hid hmx
                have KC : Hid (∀ W : World, Calls Try.prog 10 #[cv ⟨255, lf⟩, pv ps, .int .i64 0, .int .i64 0, .int .u8 0] W fun x w' => x = .returned (.tuple #[.int .i64 (chooseI ⟨255, lf⟩ ps 0 0 0), .bool (decide (0 ≤ chooseI ⟨255, lf⟩ ps 0 0 0))]) ∧ Below W.heap.size W w') := Lib.hid (fun W => H.choose ⟨255, lf⟩ ps 0 0 0 W HC2.out OK_RP.out (by decide) (by decide) (by decide) (by decide) (by decide))
                have hbest := choose_best ⟨255, lf⟩ ps 0 0
                have hrg := chooseI_range ⟨255, lf⟩ ps 0 0 0
                obtain ⟨best, hbb⟩ : ∃ x, chooseI ⟨255, lf⟩ ps 0 0 0 = x := ⟨_, rfl⟩
                rw [hbb] at KC hbest hrg
                have HBE := Lib.hid hbest
                have d4 : (i : Int) < 9 := by omega
                clear hbb hbest hmx hok2 q1 q2 q3
                by_cases hb0 : 0 ≤ best
                · obtain ⟨m, rfl⟩ : ∃ m : Nat, best = (m : Int) := ⟨best.toNat, by omega⟩
                  have hm8 : m < 8 := by omega
                  have hdb : decide (0 ≤ (m : Int)) = true := decide_eq_true hb0
                  have hbe : mayI ⟨255, lf⟩ ps 0 0 m = true ∧ ∀ v, v < 8 → mayI ⟨255, lf⟩ ps 0 0 v = true → prio ps v < prio ps m ∨ (prio ps v = prio ps m ∧ m ≤ v) := by
                    rcases HBE.out with ⟨e, -⟩ | ⟨m', e, -, h2, h3⟩
                    · omega
                    · obtain rfl : m' = m := by omega
                      exact ⟨h2, h3⟩
                  have hqla := HMX.out m hm8 hbe.1
                  have pq := HPR.out m
                  have HBEST := Lib.hid hbe.2
                  have hbit : lf.testBit m = true := ((mayI_iff _ _ _ _ _).1 hbe.1).1
                  have hsh := shr_val lf m
                  rw [hbit, if_pos rfl] at hsh
                  have hct := cnt_taken lf m hlf hm8 hbit
                  have hlf2 := and_lt256 lf (255 - 2 ^ m) hlf
                  have hI := fun W => run_index_eight gp m W hm8
                  have cm := RP_t.out.at OK_RP.out m hm8
                  obtain ⟨q, hq⟩ : ∃ q, prio ps m = q := ⟨_, rfl⟩
                  rw [hq] at cm pq hqla
                  have HQ := Lib.hid hq
                  have hs1 := shl_one m hm8
                  have hs2 := andNot_pow lf m hlf hm8
                  have KT : Hid (∀ W : World, Calls Try.prog 11 #[cv ⟨255, lf⟩, .int .i64 (m : Int)] W fun x w' => x = .returned (cv ⟨255, lf &&& (255 - 2 ^ m)⟩) ∧ Below W.heap.size W w') := Lib.hid (fun W => by
                    have h := H.taken ⟨255, lf⟩ (m : Int) W HC2.out (by omega) (by omega)
                    rw [show takenI ⟨255, lf⟩ (m : Int) = ⟨255, lf &&& (255 - 2 ^ m)⟩ from if_pos ⟨by omega, by omega⟩] at h
                    exact h)
                  have HM2 : Hid (∀ v, v < 8 → mayI ⟨255, lf &&& (255 - 2 ^ m)⟩ ps 0 0 v = true → prio ps v ≤ q) := Lib.hid (fun v hv hy => by
                    have h1 := HBEST.out v hv (may_fewer lf _ ps v hy)
                    rw [HQ.out] at h1
                    omega)
                  obtain ⟨lf2, hlfe⟩ : ∃ x, lf &&& (255 - 2 ^ m) = x := ⟨_, rfl⟩
                  rw [hlfe] at KT HM2 hs2 hct hlf2
                  have hdm : (m : Int) < 8 := by omega
                  clear hbe hbit hq hlfe HBE HMX
                  rw [hdb] at KC
                  as_aux_lemma =>
                    go_wp2_with (first
      | ((with_reducible show wpList _ _ _ (⟨none, .store 23 (.tmp 7) (.tmp 224), _, _, _, _⟩ :: _) _ _); refine wpList_store_c2 rfl 23 _ _ rfl (gc) (by exact rfl) (by exact rfl) (by kernel_rfl) 23 RC_t2.out ?_; intro t3 HN HO HB
         have RP_t3 : Hid (PRow t3 (gp) (ps)) := Lib.hid (PRow.other RP_t2.out HO.out (NE_RP_RC.out))
         have RC_t3 : Hid (CRow t3 (gc) 23 (⟨255, lf2⟩)) := HN
         have BB_t3 : Hid (Below w.heap.size w t3) := Lib.hid (BB_t2.out.trans (HB.out.mono LE_RC.out))
         clear HO HB HN RC_t2 RP_t2 BB_t2)
      | (go_at_call 11; have hc := BB_t1; clear hc; (with_reducible refine (KT.out _).mono ?_); rintro e t2 ⟨rfl, hB⟩
         have RC_t2 : Hid (CRow t2 (gc) 23 (⟨255, lf⟩)) := Lib.hid (CRow.below RC_t1.out hB RC_t1.out.lt)
         have RP_t2 : Hid (PRow t2 (gp) (ps)) := Lib.hid (PRow.below RP_t1.out hB RP_t1.out.lt)
         have BB_t2 : Hid (Below w.heap.size w t2) := Lib.hid (BB_t1.out.trans (hB.mono BB_t1.out.size))
         clear cm
         clear hB RC_t1 RP_t1 BB_t1)
      | ((with_reducible show wpList _ _ _ (⟨some 222, .load 23 (.tmp 7), _, _, _, _⟩ :: _) _ _); refine wpList_load_c (by rfl) 23 _ rfl (gc) (by exact rfl) _ Try.underlying23 (by kernel_rfl) 23 RC_t1.out ?_)
      | (go_at_call 10; have hc := BB_t; clear hc; (with_reducible refine (KC.out _).mono ?_); rintro e t1 ⟨rfl, hB⟩
         have RC_t1 : Hid (CRow t1 (gc) 23 (⟨255, lf⟩)) := Lib.hid (CRow.below RC_t.out hB RC_t.out.lt)
         have RP_t1 : Hid (PRow t1 (gp) (ps)) := Lib.hid (PRow.below RP_t.out hB RP_t.out.lt)
         have BB_t1 : Hid (Below w.heap.size w t1) := Lib.hid (BB_t.out.trans (hB.mono BB_t.out.size))
         clear cm
         have cm := RP_t1.out.at OK_RP.out m hm8
         rw [HQ.out] at cm
         clear hB RC_t RP_t BB_t)
      | ((with_reducible show wpList _ _ _ (⟨some 189, .load 24 (.tmp 5), _, _, _, _⟩ :: _) _ _); refine wpList_load_p (by rfl) 24 _ rfl (gp) (by exact rfl) _ _ Try.underlying24 (by kernel_rfl) OK_RP.out RP_t.out ?_)
      | ((with_reducible show wpList _ _ _ (⟨some 188, .load 23 (.tmp 7), _, _, _, _⟩ :: _) _ _); refine wpList_load_c (by rfl) 23 _ rfl (gc) (by exact rfl) _ Try.underlying23 (by kernel_rfl) 23 RC_t.out ?_))
                    go_roundw
                    case rel => exact ⟨i + 1, lf2, q, by omega, by go_num, by first | rfl | (rw [hs2]; done), rfl, hlf2, by omega, by omega, by omega, HM2.out, RC_t3.out, RP_t3.out, BB_t3.out⟩
                    case measure =>
                      simp [intOf]
                      omega
                · obtain rfl : best = -1 := by omega
                  have hdb : decide (0 ≤ (-1 : Int)) = false := by decide
                  have HNONE : Hid (∀ v, v < 8 → mayI ⟨255, lf⟩ ps 0 0 v = false) := Lib.hid (by
                    rcases HBE.out with ⟨-, h⟩ | ⟨m', e, -⟩
                    · exact h
                    · omega)
                  rw [hdb] at KC
                  clear HBE HMX hb0 hrg
                  go_wp2_with (first
      | (go_at_call 10; have hc := BB_t; clear hc; (with_reducible refine (KC.out _).mono ?_); rintro e t1 ⟨rfl, hB⟩
         have RC_t1 : Hid (CRow t1 (gc) 23 (⟨255, lf⟩)) := Lib.hid (CRow.below RC_t.out hB RC_t.out.lt)
         have RP_t1 : Hid (PRow t1 (gp) (ps)) := Lib.hid (PRow.below RP_t.out hB RP_t.out.lt)
         have BB_t1 : Hid (Below w.heap.size w t1) := Lib.hid (BB_t.out.trans (hB.mono BB_t.out.size))
         clear hB RC_t RP_t BB_t)
      | ((with_reducible show wpList _ _ _ (⟨some 189, .load 24 (.tmp 5), _, _, _, _⟩ :: _) _ _); refine wpList_load_p (by rfl) 24 _ rfl (gp) (by exact rfl) _ _ Try.underlying24 (by kernel_rfl) OK_RP.out RP_t.out ?_)
      | ((with_reducible show wpList _ _ _ (⟨some 188, .load 23 (.tmp 7), _, _, _, _⟩ :: _) _ _); refine wpList_load_c (by rfl) 23 _ rfl (gc) (by exact rfl) _ Try.underlying23 (by kernel_rfl) 23 RC_t.out ?_))
                  go_loopw [23] (fun iv wx => ∃ j : Nat, j ≤ 8 ∧ iv = .int .i64 (j : Int) ∧ CRow wx gc 23 ⟨255, lf⟩ ∧ PRow wx gp ps ∧ Below w.heap.size w wx) (fun iv _ => 8 - (intOf iv).toNat)
                  case atStart => exact ⟨0, by omega, rfl, RC_t1.out, RP_t1.out, BB_t1.out⟩
                  case round =>
                    clear RC_t1 RP_t1 BB_t1
                    obtain ⟨j, hj, rfl, q1, q2, q3⟩ := hrel
                    have RC_s := Lib.hid q1
                    have RP_s := Lib.hid q2
                    have BB_s := Lib.hid q3
                    by_cases hlt : j < 8
                    · have d5 : (j : Int) < 8 := by omega
                      have hsh := shr_val lf j
                      have hI := fun W => run_index_eight gp j W hlt
                      have cj := q2.at OK_RP.out j hlt
                      have hno := HNONE.out j hlt
                      rw [may_split ⟨255, lf⟩ ps 0 0 j hlt (by decide) (by decide), show ((lf &&& 255) &&& (255 - 0)).testBit j = lf.testBit j from by rw [show (255 - 0 : Nat) = 255 from rfl, Nat.testBit_and, Nat.testBit_and, all_bit j hlt, Bool.and_true, Bool.and_true]] at hno
                      obtain ⟨y, hy⟩ : ∃ y, prio ps j = y := ⟨_, rfl⟩
                      rw [hy] at cj hno
                      have HJ := Lib.hid hlt
                      clear hy q1 q2 q3 hlt
                      rcases hbit : lf.testBit j with _ | _
                      · rw [hbit, if_neg (by decide)] at hsh
                        clear hbit hno
                        as_aux_lemma =>
                          go_wp2_with fail
                          go_roundw
                          case rel => exact ⟨j + 1, by have := HJ.out; omega, by go_num, RC_s.out, RP_s.out, BB_s.out⟩
                          case measure =>
                            simp [intOf]
                            omega
                      · rw [hbit, if_pos rfl] at hsh
                        rw [hbit, Bool.true_and] at hno
                        have dy : ¬ 0 < y := of_decide_eq_false hno
                        clear hbit hno
                        as_aux_lemma =>
                          go_wp2_with fail
                          go_roundw
                          case rel => exact ⟨j + 1, by have := HJ.out; omega, by go_num, RC_s.out, RP_s.out, BB_s.out⟩
                          case measure =>
                            simp [intOf]
                            omega
                    · have d5 : ¬ (j : Int) < 8 := by omega
                      have hwl : wrap32 (lf : Int) = (lf : Int) := by unfold wrap32; omega
                      have KP : Hid (∀ X : World, Calls Try.prog 12 #[cv ⟨255, lf⟩, .int .i64 13] X fun x w' => x = .returned (.int .i32 (lf : Int)) ∧ Below X.heap.size X w') := Lib.hid (fun X => H.peek ⟨255, lf⟩ 13 X HC2.out (by decide) (by decide))
                      clear q1 q2 q3 hlt
                      obtain ⟨s, hs⟩ : ∃ W, wr = W := ⟨_, rfl⟩
                      rw [hs] at RC_s RP_s BB_s ⊢
                      clear hs
                      go_wp2_with (first
      | (go_at_call 12; have hc := BB_s; clear hc; (with_reducible refine (KP.out _).mono ?_); rintro e s1 ⟨rfl, hB⟩
         have RC_s1 : Hid (CRow s1 (gc) 23 (⟨255, lf⟩)) := Lib.hid (CRow.below RC_s.out hB RC_s.out.lt)
         have RP_s1 : Hid (PRow s1 (gp) (ps)) := Lib.hid (PRow.below RP_s.out hB RP_s.out.lt)
         have BB_s1 : Hid (Below w.heap.size w s1) := Lib.hid (BB_s.out.trans (hB.mono BB_s.out.size))
         clear hB RC_s RP_s BB_s)
      | ((with_reducible show wpList _ _ _ (⟨some 240, .load 23 (.tmp 7), _, _, _, _⟩ :: _) _ _); refine wpList_load_c (by rfl) 23 _ rfl (gc) (by exact rfl) _ Try.underlying23 (by kernel_rfl) 23 RC_s.out ?_))
                      go_ret
                      exact ⟨by first | rfl | (simp [hwl]; done), BB_s1.out⟩
          · skip
            as_aux_lemma =>
              go_wp2_with (first
      | ((with_reducible show wpList _ _ _ (⟨none, .store 23 (.tmp 7) (.tmp 181), _, _, _, _⟩ :: _) _ _); refine wpList_store_c2 rfl 23 _ _ rfl (gc) (by exact rfl) (by exact rfl) (by kernel_rfl) 23 RC_u1.out ?_; intro u2 HN HO HB
         have RP_u2 : Hid (PRow u2 (gp) (ps)) := Lib.hid (PRow.other RP_u1.out HO.out (NE_RP_RC.out))
         have RC_u2 : Hid (CRow u2 (gc) 23 (⟨255, lf0⟩)) := HN
         have BB_u2 : Hid (Below w.heap.size w u2) := Lib.hid (BB_u1.out.trans (HB.out.mono LE_RC.out))
         clear HO HB HN RC_u1 RP_u1 BB_u1)
      | (go_at_call 9; have hc := BB_u; clear hc; (with_reducible refine (KW2.out _).mono ?_); rintro e u1 ⟨rfl, hB⟩
         have RC_u1 : Hid (CRow u1 (gc) 23 (c)) := Lib.hid (CRow.below RC_u.out hB RC_u.out.lt)
         have RP_u1 : Hid (PRow u1 (gp) (ps)) := Lib.hid (PRow.below RP_u.out hB RP_u.out.lt)
         have BB_u1 : Hid (Below w.heap.size w u1) := Lib.hid (BB_u.out.trans (hB.mono BB_u.out.size))
         clear hB RC_u RP_u BB_u)
      | ((with_reducible show wpList _ _ _ (⟨some 180, .load 23 (.tmp 7), _, _, _, _⟩ :: _) _ _); refine wpList_load_c (by rfl) 23 _ rfl (gc) (by exact rfl) _ Try.underlying23 (by kernel_rfl) 23 RC_u.out ?_))
              go_loopw [18, 19, 20] (fun lv fv iv wx => ∃ (i lf : Nat) (la : Int), i ≤ 8 ∧ iv = .int .i64 (i : Int) ∧ fv = .int .u8 (lf : Int) ∧ lv = .int .i64 la ∧ lf < 256 ∧ cnt lf + i ≤ 8 ∧ 0 ≤ la ∧ la ≤ 9 ∧ (∀ v, v < 8 → mayI ⟨255, lf⟩ ps 0 0 v = true → prio ps v ≤ la) ∧ CRow wx gc 23 ⟨255, lf⟩ ∧ PRow wx gp ps ∧ Below w.heap.size w wx) (fun _ _ iv _ => 9 - (intOf iv).toNat)
              case atStart => exact ⟨0, lf0, 9, by omega, rfl, rfl, rfl, hcp, cnt_le lf0, by decide, by decide, fun v hv _ => by have := HPR.out v; omega, RC_u2.out, RP_u2.out, BB_u2.out⟩
              case round =>
                clear RC_u2 RP_u2 BB_u2 hcp
                obtain ⟨i, lf, la, hi, rfl, rfl, rfl, hlf, hcnt, hla, hla2, hmx, q1, q2, q3⟩ := hrel
                obtain ⟨t, ht⟩ : ∃ v, wr = v := ⟨_, rfl⟩
                rw [ht] at q1 q2 q3 ⊢
                clear ht
                have RC_t := Lib.hid q1
                have RP_t := Lib.hid q2
                have BB_t := Lib.hid q3
                have hok2 : Ic.ok ⟨255, lf⟩ := ⟨by show (255 : Nat) < 256; decide, hlf⟩
                have HC2 := Lib.hid hok2
                have HMX := Lib.hid hmx
                have KC : Hid (∀ W : World, Calls Try.prog 10 #[cv ⟨255, lf⟩, pv ps, .int .i64 0, .int .i64 0, .int .u8 0] W fun x w' => x = .returned (.tuple #[.int .i64 (chooseI ⟨255, lf⟩ ps 0 0 0), .bool (decide (0 ≤ chooseI ⟨255, lf⟩ ps 0 0 0))]) ∧ Below W.heap.size W w') := Lib.hid (fun W => H.choose ⟨255, lf⟩ ps 0 0 0 W HC2.out OK_RP.out (by decide) (by decide) (by decide) (by decide) (by decide))
                have hbest := choose_best ⟨255, lf⟩ ps 0 0
                have hrg := chooseI_range ⟨255, lf⟩ ps 0 0 0
                obtain ⟨best, hbb⟩ : ∃ x, chooseI ⟨255, lf⟩ ps 0 0 0 = x := ⟨_, rfl⟩
                rw [hbb] at KC hbest hrg
                have HBE := Lib.hid hbest
                have d4 : (i : Int) < 9 := by omega
                clear hbb hbest hmx hok2 q1 q2 q3
                by_cases hb0 : 0 ≤ best
                · obtain ⟨m, rfl⟩ : ∃ m : Nat, best = (m : Int) := ⟨best.toNat, by omega⟩
                  have hm8 : m < 8 := by omega
                  have hdb : decide (0 ≤ (m : Int)) = true := decide_eq_true hb0
                  have hbe : mayI ⟨255, lf⟩ ps 0 0 m = true ∧ ∀ v, v < 8 → mayI ⟨255, lf⟩ ps 0 0 v = true → prio ps v < prio ps m ∨ (prio ps v = prio ps m ∧ m ≤ v) := by
                    rcases HBE.out with ⟨e, -⟩ | ⟨m', e, -, h2, h3⟩
                    · omega
                    · obtain rfl : m' = m := by omega
                      exact ⟨h2, h3⟩
                  have hqla := HMX.out m hm8 hbe.1
                  have pq := HPR.out m
                  have HBEST := Lib.hid hbe.2
                  have hbit : lf.testBit m = true := ((mayI_iff _ _ _ _ _).1 hbe.1).1
                  have hsh := shr_val lf m
                  rw [hbit, if_pos rfl] at hsh
                  have hct := cnt_taken lf m hlf hm8 hbit
                  have hlf2 := and_lt256 lf (255 - 2 ^ m) hlf
                  have hI := fun W => run_index_eight gp m W hm8
                  have cm := RP_t.out.at OK_RP.out m hm8
                  obtain ⟨q, hq⟩ : ∃ q, prio ps m = q := ⟨_, rfl⟩
                  rw [hq] at cm pq hqla
                  have HQ := Lib.hid hq
                  have hs1 := shl_one m hm8
                  have hs2 := andNot_pow lf m hlf hm8
                  have KT : Hid (∀ W : World, Calls Try.prog 11 #[cv ⟨255, lf⟩, .int .i64 (m : Int)] W fun x w' => x = .returned (cv ⟨255, lf &&& (255 - 2 ^ m)⟩) ∧ Below W.heap.size W w') := Lib.hid (fun W => by
                    have h := H.taken ⟨255, lf⟩ (m : Int) W HC2.out (by omega) (by omega)
                    rw [show takenI ⟨255, lf⟩ (m : Int) = ⟨255, lf &&& (255 - 2 ^ m)⟩ from if_pos ⟨by omega, by omega⟩] at h
                    exact h)
                  have HM2 : Hid (∀ v, v < 8 → mayI ⟨255, lf &&& (255 - 2 ^ m)⟩ ps 0 0 v = true → prio ps v ≤ q) := Lib.hid (fun v hv hy => by
                    have h1 := HBEST.out v hv (may_fewer lf _ ps v hy)
                    rw [HQ.out] at h1
                    omega)
                  obtain ⟨lf2, hlfe⟩ : ∃ x, lf &&& (255 - 2 ^ m) = x := ⟨_, rfl⟩
                  rw [hlfe] at KT HM2 hs2 hct hlf2
                  have hdm : (m : Int) < 8 := by omega
                  clear hbe hbit hq hlfe HBE HMX
                  rw [hdb] at KC
                  as_aux_lemma =>
                    go_wp2_with (first
      | ((with_reducible show wpList _ _ _ (⟨none, .store 23 (.tmp 7) (.tmp 224), _, _, _, _⟩ :: _) _ _); refine wpList_store_c2 rfl 23 _ _ rfl (gc) (by exact rfl) (by exact rfl) (by kernel_rfl) 23 RC_t2.out ?_; intro t3 HN HO HB
         have RP_t3 : Hid (PRow t3 (gp) (ps)) := Lib.hid (PRow.other RP_t2.out HO.out (NE_RP_RC.out))
         have RC_t3 : Hid (CRow t3 (gc) 23 (⟨255, lf2⟩)) := HN
         have BB_t3 : Hid (Below w.heap.size w t3) := Lib.hid (BB_t2.out.trans (HB.out.mono LE_RC.out))
         clear HO HB HN RC_t2 RP_t2 BB_t2)
      | (go_at_call 11; have hc := BB_t1; clear hc; (with_reducible refine (KT.out _).mono ?_); rintro e t2 ⟨rfl, hB⟩
         have RC_t2 : Hid (CRow t2 (gc) 23 (⟨255, lf⟩)) := Lib.hid (CRow.below RC_t1.out hB RC_t1.out.lt)
         have RP_t2 : Hid (PRow t2 (gp) (ps)) := Lib.hid (PRow.below RP_t1.out hB RP_t1.out.lt)
         have BB_t2 : Hid (Below w.heap.size w t2) := Lib.hid (BB_t1.out.trans (hB.mono BB_t1.out.size))
         clear cm
         clear hB RC_t1 RP_t1 BB_t1)
      | ((with_reducible show wpList _ _ _ (⟨some 222, .load 23 (.tmp 7), _, _, _, _⟩ :: _) _ _); refine wpList_load_c (by rfl) 23 _ rfl (gc) (by exact rfl) _ Try.underlying23 (by kernel_rfl) 23 RC_t1.out ?_)
      | (go_at_call 10; have hc := BB_t; clear hc; (with_reducible refine (KC.out _).mono ?_); rintro e t1 ⟨rfl, hB⟩
         have RC_t1 : Hid (CRow t1 (gc) 23 (⟨255, lf⟩)) := Lib.hid (CRow.below RC_t.out hB RC_t.out.lt)
         have RP_t1 : Hid (PRow t1 (gp) (ps)) := Lib.hid (PRow.below RP_t.out hB RP_t.out.lt)
         have BB_t1 : Hid (Below w.heap.size w t1) := Lib.hid (BB_t.out.trans (hB.mono BB_t.out.size))
         clear cm
         have cm := RP_t1.out.at OK_RP.out m hm8
         rw [HQ.out] at cm
         clear hB RC_t RP_t BB_t)
      | ((with_reducible show wpList _ _ _ (⟨some 189, .load 24 (.tmp 5), _, _, _, _⟩ :: _) _ _); refine wpList_load_p (by rfl) 24 _ rfl (gp) (by exact rfl) _ _ Try.underlying24 (by kernel_rfl) OK_RP.out RP_t.out ?_)
      | ((with_reducible show wpList _ _ _ (⟨some 188, .load 23 (.tmp 7), _, _, _, _⟩ :: _) _ _); refine wpList_load_c (by rfl) 23 _ rfl (gc) (by exact rfl) _ Try.underlying23 (by kernel_rfl) 23 RC_t.out ?_))
                    go_roundw
                    case rel => exact ⟨i + 1, lf2, q, by omega, by go_num, by first | rfl | (rw [hs2]; done), rfl, hlf2, by omega, by omega, by omega, HM2.out, RC_t3.out, RP_t3.out, BB_t3.out⟩
                    case measure =>
                      simp [intOf]
                      omega
                · obtain rfl : best = -1 := by omega
                  have hdb : decide (0 ≤ (-1 : Int)) = false := by decide
                  have HNONE : Hid (∀ v, v < 8 → mayI ⟨255, lf⟩ ps 0 0 v = false) := Lib.hid (by
                    rcases HBE.out with ⟨-, h⟩ | ⟨m', e, -⟩
                    · exact h
                    · omega)
                  rw [hdb] at KC
                  clear HBE HMX hb0 hrg
                  go_wp2_with (first
      | (go_at_call 10; have hc := BB_t; clear hc; (with_reducible refine (KC.out _).mono ?_); rintro e t1 ⟨rfl, hB⟩
         have RC_t1 : Hid (CRow t1 (gc) 23 (⟨255, lf⟩)) := Lib.hid (CRow.below RC_t.out hB RC_t.out.lt)
         have RP_t1 : Hid (PRow t1 (gp) (ps)) := Lib.hid (PRow.below RP_t.out hB RP_t.out.lt)
         have BB_t1 : Hid (Below w.heap.size w t1) := Lib.hid (BB_t.out.trans (hB.mono BB_t.out.size))
         clear hB RC_t RP_t BB_t)
      | ((with_reducible show wpList _ _ _ (⟨some 189, .load 24 (.tmp 5), _, _, _, _⟩ :: _) _ _); refine wpList_load_p (by rfl) 24 _ rfl (gp) (by exact rfl) _ _ Try.underlying24 (by kernel_rfl) OK_RP.out RP_t.out ?_)
      | ((with_reducible show wpList _ _ _ (⟨some 188, .load 23 (.tmp 7), _, _, _, _⟩ :: _) _ _); refine wpList_load_c (by rfl) 23 _ rfl (gc) (by exact rfl) _ Try.underlying23 (by kernel_rfl) 23 RC_t.out ?_))
                  go_loopw [23] (fun iv wx => ∃ j : Nat, j ≤ 8 ∧ iv = .int .i64 (j : Int) ∧ CRow wx gc 23 ⟨255, lf⟩ ∧ PRow wx gp ps ∧ Below w.heap.size w wx) (fun iv _ => 8 - (intOf iv).toNat)
                  case atStart => exact ⟨0, by omega, rfl, RC_t1.out, RP_t1.out, BB_t1.out⟩
                  case round =>
                    clear RC_t1 RP_t1 BB_t1
                    obtain ⟨j, hj, rfl, q1, q2, q3⟩ := hrel
                    have RC_s := Lib.hid q1
                    have RP_s := Lib.hid q2
                    have BB_s := Lib.hid q3
                    by_cases hlt : j < 8
                    · have d5 : (j : Int) < 8 := by omega
                      have hsh := shr_val lf j
                      have hI := fun W => run_index_eight gp j W hlt
                      have cj := q2.at OK_RP.out j hlt
                      have hno := HNONE.out j hlt
                      rw [may_split ⟨255, lf⟩ ps 0 0 j hlt (by decide) (by decide), show ((lf &&& 255) &&& (255 - 0)).testBit j = lf.testBit j from by rw [show (255 - 0 : Nat) = 255 from rfl, Nat.testBit_and, Nat.testBit_and, all_bit j hlt, Bool.and_true, Bool.and_true]] at hno
                      obtain ⟨y, hy⟩ : ∃ y, prio ps j = y := ⟨_, rfl⟩
                      rw [hy] at cj hno
                      have HJ := Lib.hid hlt
                      clear hy q1 q2 q3 hlt
                      rcases hbit : lf.testBit j with _ | _
                      · rw [hbit, if_neg (by decide)] at hsh
                        clear hbit hno
                        as_aux_lemma =>
                          go_wp2_with fail
                          go_roundw
                          case rel => exact ⟨j + 1, by have := HJ.out; omega, by go_num, RC_s.out, RP_s.out, BB_s.out⟩
                          case measure =>
                            simp [intOf]
                            omega
                      · rw [hbit, if_pos rfl] at hsh
                        rw [hbit, Bool.true_and] at hno
                        have dy : ¬ 0 < y := of_decide_eq_false hno
                        clear hbit hno
                        as_aux_lemma =>
                          go_wp2_with fail
                          go_roundw
                          case rel => exact ⟨j + 1, by have := HJ.out; omega, by go_num, RC_s.out, RP_s.out, BB_s.out⟩
                          case measure =>
                            simp [intOf]
                            omega
                    · have d5 : ¬ (j : Int) < 8 := by omega
                      have hwl : wrap32 (lf : Int) = (lf : Int) := by unfold wrap32; omega
                      have KP : Hid (∀ X : World, Calls Try.prog 12 #[cv ⟨255, lf⟩, .int .i64 13] X fun x w' => x = .returned (.int .i32 (lf : Int)) ∧ Below X.heap.size X w') := Lib.hid (fun X => H.peek ⟨255, lf⟩ 13 X HC2.out (by decide) (by decide))
                      clear q1 q2 q3 hlt
                      obtain ⟨s, hs⟩ : ∃ W, wr = W := ⟨_, rfl⟩
                      rw [hs] at RC_s RP_s BB_s ⊢
                      clear hs
                      go_wp2_with (first
      | (go_at_call 12; have hc := BB_s; clear hc; (with_reducible refine (KP.out _).mono ?_); rintro e s1 ⟨rfl, hB⟩
         have RC_s1 : Hid (CRow s1 (gc) 23 (⟨255, lf⟩)) := Lib.hid (CRow.below RC_s.out hB RC_s.out.lt)
         have RP_s1 : Hid (PRow s1 (gp) (ps)) := Lib.hid (PRow.below RP_s.out hB RP_s.out.lt)
         have BB_s1 : Hid (Below w.heap.size w s1) := Lib.hid (BB_s.out.trans (hB.mono BB_s.out.size))
         clear hB RC_s RP_s BB_s)
      | ((with_reducible show wpList _ _ _ (⟨some 240, .load 23 (.tmp 7), _, _, _, _⟩ :: _) _ _); refine wpList_load_c (by rfl) 23 _ rfl (gc) (by exact rfl) _ Try.underlying23 (by kernel_rfl) 23 RC_s.out ?_))
                      go_ret
                      exact ⟨by first | rfl | (simp [hwl]; done), BB_s1.out⟩
end Go.Proofs.Ytcdomelfmkbloaa
