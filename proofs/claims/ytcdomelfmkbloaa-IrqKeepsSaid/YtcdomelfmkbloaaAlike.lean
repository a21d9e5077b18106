/-
  alike by its contract, if the program's functions are what they must be: true. Made by wip/genirqalike.py.
-/
import Derived.Test.YtcdomelfmkbloaaWorks
import Derived.Deep.CutBlock
namespace Go.Proofs.Ytcdomelfmkbloaa
open Go.RowKit
set_option linter.unusedVariables false
theorem alloc_keep {X : World} {o o' : Obj} {j : Nat} (h : X.heap[j]? = some o) : (X.alloc o').heap[j]? = some o := by
  have hl : j < X.heap.size := by
    rcases Nat.lt_or_ge j X.heap.size with h1 | h1
    · exact h1
    · rw [Array.getElem?_eq_none h1] at h; cases h
  exact (((Below.refl X.heap.size X).alloc (Nat.le_refl _) o').block j hl).trans h
theorem name_three {Q : World → Prop} {w : World} {o1 o2 o3 : Obj} (F : ∀ X : World, X.heap[w.heap.size]? = some o1 → X.heap[w.heap.size + 1]? = some o2 → X.heap[w.heap.size + 1 + 1]? = some o3 → Below w.heap.size w X → Q X) : Q (((w.alloc o1).alloc o2).alloc o3) := by
  refine F _ ?_ ?_ ?_ ?_
  · exact alloc_keep (alloc_keep (alloc_at _ _))
  · have h := alloc_at (w.alloc o1) o2
    rw [World.size_alloc] at h
    exact alloc_keep h
  · have h := alloc_at ((w.alloc o1).alloc o2) o3
    rw [World.size_alloc, World.size_alloc] at h
    exact h
  · exact (((Below.refl _ _).alloc (Nat.le_refl _) _).alloc (by simp) _).alloc (by simp; omega) _
theorem VRow.other {X X' : World} {t : TypeId} {g r : Nat} {vs : List Value} (h : VRow X g t vs) (ho : ∀ j, j ≠ r → X'.heap[j]? = X.heap[j]?) (hr : g ≠ r) : VRow X' g t vs := (ho g hr).trans h
/-- An ask, as a value. -/
abbrev asc (lv cr : Int) (mk : Nat) : List Value := [.int .i64 lv, .int .i64 cr, .int .u8 (mk : Int)]
def av (lv cr : Int) (mk : Nat) : Value := .agg #[.int .i64 lv, .int .i64 cr, .int .u8 (mk : Int)]
set_option maxHeartbeats 4000000 in
set_option maxRecDepth 100000 in
theorem alike_any (H : IrqOk) (c : Ic) (ps : List Int) (lv cr : Int) (mk : Nat) (reg n : Int) (w : World) (h : c.ok) (hp : PsOk ps) (h0 : -9223372036854775808 ≤ lv) (h1 : lv ≤ 9223372036854775807) (h2 : -9223372036854775808 ≤ cr) (h3 : cr ≤ 9223372036854775807) (hm : mk < 256)
    (h4 : -9223372036854775808 ≤ reg) (h5 : reg ≤ 9223372036854775807) (h6 : -2147483648 ≤ n) (h7 : n ≤ 2147483647) :
    Calls Try.prog 6 #[cv c, pv ps, av lv cr mk, .int .i64 reg, .int .i32 n] w fun x w' => x = .returned (.bool true) ∧ Below w.heap.size w w' := by
  have hl := lowN_lt n
  have KC := Lib.hid (fun W => H.choose c ps lv cr mk W h hp h0 h1 h2 h3 hm)
  have KD := Lib.hid (fun W => rChoose_any c ps lv cr mk W h hp h0 h1 h2 h3 hm)
  have K1 := Lib.hid (fun W => H.write c reg n W h h4 h5 h6 h7)
  have K2 := Lib.hid (fun W => rWrite_any c reg n W h h4 h5 h6 h7)
  have K3 := Lib.hid (fun W => H.request c (lowN n) W h hl)
  have K4 := Lib.hid (fun W => rRequest_any c (lowN n) W h hl)
  have K5 := Lib.hid (fun W => H.taken c reg W h h4 h5)
  have K6 := Lib.hid (fun W => rTaken_any c reg W h h4 h5)
  have K7 := Lib.hid (fun W => H.peek c reg W h h4 h5)
  have K8 := Lib.hid (fun W => rPeek_any c reg W h h4 h5)
  have OK_RP := Lib.hid hp
  have HW : Hid (n % 256 = ((lowN n : Nat) : Int)) := Lib.hid (lowN_cast n).symm
  have HW2 : Hid (IntKind.u8.wrap n = ((lowN n : Nat) : Int)) := Lib.hid (by rw [lowN_cast]; simp [IntKind.wrap, IntKind.bits, IntKind.signed])
  obtain ⟨ch, hch⟩ : ∃ x, chooseI c ps lv cr mk = x := ⟨_, rfl⟩
  rw [hch] at KC KD
  obtain ⟨ci, hci⟩ : ∃ x, decide (0 ≤ ch) = x := ⟨_, rfl⟩
  rw [hci] at KC KD
  obtain ⟨cw, hcw⟩ : ∃ x, writeI c reg n = x := ⟨_, rfl⟩
  rw [hcw] at K1 K2
  obtain ⟨cq, hcq⟩ : ∃ x, requestI c (lowN n) = x := ⟨_, rfl⟩
  rw [hcq] at K3 K4
  obtain ⟨ct, hct⟩ : ∃ x, takenI c reg = x := ⟨_, rfl⟩
  rw [hct] at K5 K6
  obtain ⟨pk, hpk⟩ : ∃ x, peekI c reg = x := ⟨_, rfl⟩
  rw [hpk] at K7 K8
  clear hch hci hcw hcq hct hpk hl
  unfold cv pv av
  go_enter Try.func6, Try.ntmps6
  go_upto_region 1 with (fail)
  refine name_three (Q := fun X => Code.wp _ _ _ _ X) ?_
  intro w0 hq1 hq2 hq3 hB0
  have RC_w0 : Hid (CRow w0 w.heap.size 23 c) := Lib.hid hq1
  have RP_w0 : Hid (PRow w0 (w.heap.size + 1) ps) := Lib.hid hq2
  have RA_w0 : Hid (VRow w0 (w.heap.size + 1 + 1) 26 (asc lv cr mk)) := Lib.hid hq3
  have BB_w0 := Lib.hid hB0
  clear hq1 hq2 hq3 hB0
  obtain ⟨gc, hgc⟩ : ∃ g, w.heap.size = g := ⟨_, rfl⟩
  obtain ⟨gp, hgp⟩ : ∃ g, w.heap.size + 1 = g := ⟨_, rfl⟩
  obtain ⟨ga, hga⟩ : ∃ g, w.heap.size + 1 + 1 = g := ⟨_, rfl⟩
  rw [hga] at RA_w0 ⊢
  rw [hgp] at RP_w0 ⊢
  rw [hgc] at RC_w0 ⊢
  clear hgc hgp hga
  have z0 := RC_w0.out.c0
  have z1 := RC_w0.out.c1
  go_upto_region 4 with (first
      | (go_at_call 14; have hc := BB_w2; clear hc; (with_reducible refine (KD.out _).mono ?_); rintro e w3 ⟨rfl, hB⟩
         have RC_w3 : Hid (CRow w3 (gc) 23 (c)) := Lib.hid (CRow.below RC_w2.out hB RC_w2.out.lt)
         have RP_w3 : Hid (PRow w3 (gp) (ps)) := Lib.hid (PRow.below RP_w2.out hB RP_w2.out.lt)
         have RA_w3 : Hid (VRow w3 (ga) 26 (asc lv cr mk)) := Lib.hid (VRow.below RA_w2.out hB RA_w2.out.lt)
         have RR_w3 : Hid (CRow w3 (w0.heap.size) 43 (c)) := Lib.hid (CRow.below RR_w2.out hB RR_w2.out.lt)
         have BB_w3 : Hid (Below w.heap.size w w3) := Lib.hid (BB_w2.out.trans (hB.mono BB_w2.out.size))
         clear a0 a1 a2
         clear hB RC_w2 RP_w2 RA_w2 RR_w2 BB_w2)
      | ((with_reducible show wpList _ _ _ (⟨some 41, .load 24 (.tmp 6), _, _, _, _⟩ :: _) _ _); refine wpList_load_p (by rfl) 24 _ rfl (gp) (by exact rfl) _ _ Try.underlying24 (by kernel_rfl) OK_RP.out RP_w2.out ?_)
      | ((with_reducible show wpList _ _ _ (⟨some 40, .load 43 (.tmp 11), _, _, _, _⟩ :: _) _ _); refine wpList_load_c (by rfl) 43 _ rfl (w0.heap.size) (by exact rfl) _ Try.underlying43 (by kernel_rfl) 43 RR_w2.out ?_)
      | (go_at_call 10; have hc := BB_w1; clear hc; (with_reducible refine (KC.out _).mono ?_); rintro e w2 ⟨rfl, hB⟩
         have RC_w2 : Hid (CRow w2 (gc) 23 (c)) := Lib.hid (CRow.below RC_w1.out hB RC_w1.out.lt)
         have RP_w2 : Hid (PRow w2 (gp) (ps)) := Lib.hid (PRow.below RP_w1.out hB RP_w1.out.lt)
         have RA_w2 : Hid (VRow w2 (ga) 26 (asc lv cr mk)) := Lib.hid (VRow.below RA_w1.out hB RA_w1.out.lt)
         have RR_w2 : Hid (CRow w2 (w0.heap.size) 43 (c)) := Lib.hid (CRow.below RR_w1.out hB RR_w1.out.lt)
         have BB_w2 : Hid (Below w.heap.size w w2) := Lib.hid (BB_w1.out.trans (hB.mono BB_w1.out.size))
         clear a0 a1 a2
         have a0 := VRow.cell RA_w2.out 0 _ rfl
         have a1 := VRow.cell RA_w2.out 1 _ rfl
         have a2 := VRow.cell RA_w2.out 2 _ rfl
         clear hB RC_w1 RP_w1 RA_w1 RR_w1 BB_w1)
      | ((with_reducible show wpList _ _ _ (⟨some 29, .load 24 (.tmp 6), _, _, _, _⟩ :: _) _ _); refine wpList_load_p (by rfl) 24 _ rfl (gp) (by exact rfl) _ _ Try.underlying24 (by kernel_rfl) OK_RP.out RP_w1.out ?_)
      | ((with_reducible show wpList _ _ _ (⟨some 28, .load 23 (.tmp 5), _, _, _, _⟩ :: _) _ _); refine wpList_load_c (by rfl) 23 _ rfl (gc) (by exact rfl) _ Try.underlying23 (by kernel_rfl) 23 RC_w1.out ?_)
      | ((with_reducible show wpList _ _ _ (⟨none, .store 43 (.tmp 11) (.tmp 26), _, _, _, _⟩ :: _) _ _); refine wpList_store_c2 (d := c) rfl 43 _ _ rfl (w0.heap.size) (by exact rfl) (by exact rfl) (by kernel_rfl) 43 (show CRow _ _ _ ⟨0, 0⟩ from alloc_at _ _) ?_; intro w1 HN HO HB
         have RC_w1 : Hid (CRow w1 (gc) 23 (c)) := Lib.hid (CRow.other (CRow.below RC_w0.out ((Below.refl _ _).alloc (Nat.le_refl _) _) RC_w0.out.lt) HO.out (Nat.ne_of_lt RC_w0.out.lt))
         have RP_w1 : Hid (PRow w1 (gp) (ps)) := Lib.hid (PRow.other (PRow.below RP_w0.out ((Below.refl _ _).alloc (Nat.le_refl _) _) RP_w0.out.lt) HO.out (Nat.ne_of_lt RP_w0.out.lt))
         have RA_w1 : Hid (VRow w1 (ga) 26 (asc lv cr mk)) := Lib.hid (VRow.other (VRow.below RA_w0.out ((Below.refl _ _).alloc (Nat.le_refl _) _) RA_w0.out.lt) HO.out (Nat.ne_of_lt RA_w0.out.lt))
         have RR_w1 : Hid (CRow w1 (w0.heap.size) 43 (c)) := HN
         have BB_w1 : Hid (Below w.heap.size w w1) := Lib.hid ((BB_w0.out.alloc BB_w0.out.size _).trans (HB.out.mono BB_w0.out.size))
         clear z0 z1
         have a0 := VRow.cell RA_w1.out 0 _ rfl
         have a1 := VRow.cell RA_w1.out 1 _ rfl
         have a2 := VRow.cell RA_w1.out 2 _ rfl
         clear HO HB HN RC_w0 RP_w0 RA_w0 BB_w0))
  generalize w0.heap.size = gr at *
  go_cut [16, 17] (fun xv yv wx => ∃ (Wc : World) (b1 b2 : Nat), Wc = wx ∧ xv = .pointer (some ⟨b1, 0, none⟩) ∧ yv = .pointer (some ⟨b2, 0, none⟩) ∧ CRow Wc b1 23 (cw) ∧ CRow Wc b2 43 (cw) ∧ Below w3.heap.size w3 Wc)
  case first =>
    refine wp_region_noPanic ?_
    refine wp_region_held_drew (S := fun X => Below w3.heap.size w3 X) (by kernel_rfl) ((Below.refl _ w3).drew) (fun hHeld => ?_)
    obtain ⟨Y0, hY0⟩ : ∃ Y, w3.drew = Y := ⟨_, rfl⟩
    rw [hY0] at hHeld ⊢
    clear hY0
    have g0 := hHeld
    refine' take_ 0 rfl (by kernel_rfl) (by kernel_rfl) (by kernel_rfl) (fun _ _ _ h => h) (by rfl) (fun wS hSw => run_load_c wS 23 _ gc rfl _ Try.underlying23 (by kernel_rfl) 23 (RC_w3.out.below hSw RC_w3.out.lt) _ _ _ _ _) g0 ?_
    try simp only [Act.put, List.setIfInBounds_toArray, List.set_cons_zero, List.set_cons_succ]
    refine' take_ 1 rfl (by kernel_rfl) (by kernel_rfl) (by kernel_rfl) (fun _ _ _ h => h) (by rfl) (fun wS hSw => ?_) hHeld ?_
    rotate_left
    focus (go_simp; (try with_reducible rfl); done)
    try simp only [Act.put, List.setIfInBounds_toArray, List.set_cons_zero, List.set_cons_succ]
    refine' take_ 2 rfl (by kernel_rfl) (by kernel_rfl) (by kernel_rfl) (fun _ _ _ h => h) (by rfl) (fun wS hSw => ?_) hHeld ?_
    rotate_left
    focus (go_simp; (try with_reducible rfl); done)
    try simp only [Act.put, List.setIfInBounds_toArray, List.set_cons_zero, List.set_cons_succ]
    refine' take_ 4 rfl (by kernel_rfl) (by kernel_rfl) (by kernel_rfl) (fun _ _ _ h => h) (by rfl) (fun wS hSw => run_load_c wS 43 _ gr rfl _ Try.underlying43 (by kernel_rfl) 43 (RR_w3.out.below hSw RR_w3.out.lt) _ _ _ _ _) g0 ?_
    try simp only [Act.put, List.setIfInBounds_toArray, List.set_cons_zero, List.set_cons_succ]
    refine' take_ 5 rfl (by kernel_rfl) (by kernel_rfl) (by kernel_rfl) (fun _ _ _ h => h) (by rfl) (fun wS hSw => ?_) hHeld ?_
    rotate_left
    focus (go_simp; (try with_reducible rfl); done)
    try simp only [Act.put, List.setIfInBounds_toArray, List.set_cons_zero, List.set_cons_succ]
    refine' take_ 6 rfl (by kernel_rfl) (by kernel_rfl) (by kernel_rfl) (fun _ _ _ h => h) (by rfl) (fun wS hSw => ?_) hHeld ?_
    rotate_left
    focus (go_simp; (try with_reducible rfl); done)
    try simp only [Act.put, List.setIfInBounds_toArray, List.set_cons_zero, List.set_cons_succ]
    refine wpAnyH_ready (rs := [3, 8, 9]) (by kernel_rfl) (by simp) ?_
    refine AllReadyH.cons rfl (fun K hK => ?_) ?_
    · rw [if_pos (by rfl)]
      refine wp_call_ret 9 _ _ rfl _ (by rfl) (by kernel_rfl) _ (K1.out _) (fun Y1 hB => ?_)
      have h1 := hHeld.trans (hB.mono hHeld.size)
      refine hK.out _ _ h1 (fun _ => ?_)
      clear hK K hB
      show wpAnyH _ _ _ _ _ _ _ (Act.put _ (some 54) _) _
      try simp only [Act.put, List.setIfInBounds_toArray, List.set_cons_zero, List.set_cons_succ]
      refine wpAnyH_ready (rs := [7, 8, 9]) (by kernel_rfl) (by simp) ?_
      refine AllReadyH.cons rfl (fun K hK => ?_) ?_
      · rw [if_pos (by rfl)]
        refine wp_call_ret 15 _ _ rfl _ (by rfl) (by kernel_rfl) _ (K2.out _) (fun Y2 hB => ?_)
        have h2 := h1.trans (hB.mono h1.size)
        refine hK.out _ _ h2 (fun _ => ?_)
        clear hK K hB
        show wpAnyH _ _ _ _ _ _ _ (Act.put _ (some 58) _) _
        try simp only [Act.put, List.setIfInBounds_toArray, List.set_cons_zero, List.set_cons_succ]
        refine wpAnyH_ready (rs := [8, 9]) (by kernel_rfl) (by simp) ?_
        refine AllReadyH.cons rfl (fun K hK => ?_) ?_
        · rw [if_pos (by rfl)]
          refine wp_of_run (w' := Y2.alloc (.cells #[.int .u8 0, .int .u8 0] 23)) (.pointer (some ⟨Y2.heap.size, 0, none⟩)) (by kernel_rfl) ?_
          have h3 := h2.alloc h2.size (.cells #[.int .u8 0, .int .u8 0] 23)
          have r16_Y3 : CRow _ Y2.heap.size 23 ⟨0, 0⟩ := alloc_at Y2 (.cells #[.int .u8 0, .int .u8 0] 23)
          have b16 := h2.size
          refine hK.out _ _ h3 (fun _ => ?_)
          clear hK K
          generalize Y2.alloc (.cells #[.int .u8 0, .int .u8 0] 23) = Y3 at *
          show wpAnyH _ _ _ _ _ _ _ (Act.put _ (some 16) _) _
          try simp only [Act.put, List.setIfInBounds_toArray, List.set_cons_zero, List.set_cons_succ]
          refine only_ 9 rfl (by kernel_rfl) (by rfl) (fun K hK => ?_)
          refine wp_of_run (w' := Y3.alloc (.cells #[.int .u8 0, .int .u8 0] 43)) (.pointer (some ⟨Y3.heap.size, 0, none⟩)) (by kernel_rfl) ?_
          have h4 := h3.alloc h3.size (.cells #[.int .u8 0, .int .u8 0] 43)
          have r17_Y4 : CRow _ Y3.heap.size 43 ⟨0, 0⟩ := alloc_at Y3 (.cells #[.int .u8 0, .int .u8 0] 43)
          have b17 := h3.size
          have r16_Y4 := CRow.below r16_Y3 ((Below.refl _ _).alloc (Nat.le_refl _) (.cells #[.int .u8 0, .int .u8 0] 43)) r16_Y3.lt
          have ne := Nat.ne_of_lt r16_Y3.lt
          refine hK.out _ _ h4 (fun _ => ?_)
          clear hK K
          generalize Y3.alloc (.cells #[.int .u8 0, .int .u8 0] 43) = Y4 at *
          show wpAnyH _ _ _ _ _ _ _ (Act.put _ (some 17) _) _
          try simp only [Act.put, List.setIfInBounds_toArray, List.set_cons_zero, List.set_cons_succ]
          refine only_ 10 rfl (by kernel_rfl) (by rfl) (fun K hK => ?_)
          refine wp_store_c2 23 _ _ rfl (Y2.heap.size) rfl rfl (by kernel_rfl) 23 r16_Y4 ?_
          intro Y5 HN HO HB
          have h5 := h4.trans (HB.out.mono b16)
          have r16_Y5 := HN.out
          have r17_Y5 := CRow.other r17_Y4 HO.out ne.symm
          refine hK.out _ _ h5 (fun _ => ?_)
          clear hK K HN HO HB
          try simp only [Act.put]
          refine only_ 11 rfl (by kernel_rfl) (by rfl) (fun K hK => ?_)
          refine wp_store_c2 43 _ _ rfl (Y3.heap.size) rfl rfl (by kernel_rfl) 43 r17_Y5 ?_
          intro Y6 HN HO HB
          have h6 := h5.trans (HB.out.mono b17)
          have r17_Y6 := HN.out
          have r16_Y6 := CRow.other r16_Y5 HO.out ne
          refine hK.out _ _ h6 (fun _ => ?_)
          clear hK K HN HO HB
          try simp only [Act.put]
          refine wpAnyH_done (by kernel_rfl) ?_ _
          refine NoPanic.normal ?_
          go_wp2
          go_meet
          case rel => exact ⟨_, _, _, rfl, rfl, rfl, r16_Y6, r17_Y6, h6⟩
        refine AllReadyH.cons rfl (fun K hK => ?_) ?_
        · rw [if_pos (by rfl)]
          refine wp_of_run (w' := Y2.alloc (.cells #[.int .u8 0, .int .u8 0] 43)) (.pointer (some ⟨Y2.heap.size, 0, none⟩)) (by kernel_rfl) ?_
          have h3 := h2.alloc h2.size (.cells #[.int .u8 0, .int .u8 0] 43)
          have r17_Y3 : CRow _ Y2.heap.size 43 ⟨0, 0⟩ := alloc_at Y2 (.cells #[.int .u8 0, .int .u8 0] 43)
          have b17 := h2.size
          refine hK.out _ _ h3 (fun _ => ?_)
          clear hK K
          generalize Y2.alloc (.cells #[.int .u8 0, .int .u8 0] 43) = Y3 at *
          show wpAnyH _ _ _ _ _ _ _ (Act.put _ (some 17) _) _
          try simp only [Act.put, List.setIfInBounds_toArray, List.set_cons_zero, List.set_cons_succ]
          refine only_ 8 rfl (by kernel_rfl) (by rfl) (fun K hK => ?_)
          refine wp_of_run (w' := Y3.alloc (.cells #[.int .u8 0, .int .u8 0] 23)) (.pointer (some ⟨Y3.heap.size, 0, none⟩)) (by kernel_rfl) ?_
          have h4 := h3.alloc h3.size (.cells #[.int .u8 0, .int .u8 0] 23)
          have r16_Y4 : CRow _ Y3.heap.size 23 ⟨0, 0⟩ := alloc_at Y3 (.cells #[.int .u8 0, .int .u8 0] 23)
          have b16 := h3.size
          have r17_Y4 := CRow.below r17_Y3 ((Below.refl _ _).alloc (Nat.le_refl _) (.cells #[.int .u8 0, .int .u8 0] 23)) r17_Y3.lt
          have ne := Nat.ne_of_lt r17_Y3.lt
          refine hK.out _ _ h4 (fun _ => ?_)
          clear hK K
          generalize Y3.alloc (.cells #[.int .u8 0, .int .u8 0] 23) = Y4 at *
          show wpAnyH _ _ _ _ _ _ _ (Act.put _ (some 16) _) _
          try simp only [Act.put, List.setIfInBounds_toArray, List.set_cons_zero, List.set_cons_succ]
          refine only_ 10 rfl (by kernel_rfl) (by rfl) (fun K hK => ?_)
          refine wp_store_c2 23 _ _ rfl (Y3.heap.size) rfl rfl (by kernel_rfl) 23 r16_Y4 ?_
          intro Y5 HN HO HB
          have h5 := h4.trans (HB.out.mono b16)
          have r16_Y5 := HN.out
          have r17_Y5 := CRow.other r17_Y4 HO.out ne
          refine hK.out _ _ h5 (fun _ => ?_)
          clear hK K HN HO HB
          try simp only [Act.put]
          refine only_ 11 rfl (by kernel_rfl) (by rfl) (fun K hK => ?_)
          refine wp_store_c2 43 _ _ rfl (Y2.heap.size) rfl rfl (by kernel_rfl) 43 r17_Y5 ?_
          intro Y6 HN HO HB
          have h6 := h5.trans (HB.out.mono b17)
          have r17_Y6 := HN.out
          have r16_Y6 := CRow.other r16_Y5 HO.out ne.symm
          refine hK.out _ _ h6 (fun _ => ?_)
          clear hK K HN HO HB
          try simp only [Act.put]
          refine wpAnyH_done (by kernel_rfl) ?_ _
          refine NoPanic.normal ?_
          go_wp2
          go_meet
          case rel => exact ⟨_, _, _, rfl, rfl, rfl, r16_Y6, r17_Y6, h6⟩
        exact AllReadyH.nil
      refine AllReadyH.cons rfl (fun K hK => ?_) ?_
      · rw [if_pos (by rfl)]
        refine wp_of_run (w' := Y1.alloc (.cells #[.int .u8 0, .int .u8 0] 23)) (.pointer (some ⟨Y1.heap.size, 0, none⟩)) (by kernel_rfl) ?_
        have h2 := h1.alloc h1.size (.cells #[.int .u8 0, .int .u8 0] 23)
        have r16_Y2 : CRow _ Y1.heap.size 23 ⟨0, 0⟩ := alloc_at Y1 (.cells #[.int .u8 0, .int .u8 0] 23)
        have b16 := h1.size
        refine hK.out _ _ h2 (fun _ => ?_)
        clear hK K
        generalize Y1.alloc (.cells #[.int .u8 0, .int .u8 0] 23) = Y2 at *
        show wpAnyH _ _ _ _ _ _ _ (Act.put _ (some 16) _) _
        try simp only [Act.put, List.setIfInBounds_toArray, List.set_cons_zero, List.set_cons_succ]
        refine wpAnyH_ready (rs := [7, 9]) (by kernel_rfl) (by simp) ?_
        refine AllReadyH.cons rfl (fun K hK => ?_) ?_
        · rw [if_pos (by rfl)]
          refine wp_call_ret 15 _ _ rfl _ (by rfl) (by kernel_rfl) _ (K2.out _) (fun Y3 hB => ?_)
          have h3 := h2.trans (hB.mono h2.size)
          have r16_Y3 := CRow.below r16_Y2 hB r16_Y2.lt
          refine hK.out _ _ h3 (fun _ => ?_)
          clear hK K hB
          show wpAnyH _ _ _ _ _ _ _ (Act.put _ (some 58) _) _
          try simp only [Act.put, List.setIfInBounds_toArray, List.set_cons_zero, List.set_cons_succ]
          refine only_ 9 rfl (by kernel_rfl) (by rfl) (fun K hK => ?_)
          refine wp_of_run (w' := Y3.alloc (.cells #[.int .u8 0, .int .u8 0] 43)) (.pointer (some ⟨Y3.heap.size, 0, none⟩)) (by kernel_rfl) ?_
          have h4 := h3.alloc h3.size (.cells #[.int .u8 0, .int .u8 0] 43)
          have r17_Y4 : CRow _ Y3.heap.size 43 ⟨0, 0⟩ := alloc_at Y3 (.cells #[.int .u8 0, .int .u8 0] 43)
          have b17 := h3.size
          have r16_Y4 := CRow.below r16_Y3 ((Below.refl _ _).alloc (Nat.le_refl _) (.cells #[.int .u8 0, .int .u8 0] 43)) r16_Y3.lt
          have ne := Nat.ne_of_lt r16_Y3.lt
          refine hK.out _ _ h4 (fun _ => ?_)
          clear hK K
          generalize Y3.alloc (.cells #[.int .u8 0, .int .u8 0] 43) = Y4 at *
          show wpAnyH _ _ _ _ _ _ _ (Act.put _ (some 17) _) _
          try simp only [Act.put, List.setIfInBounds_toArray, List.set_cons_zero, List.set_cons_succ]
          refine only_ 10 rfl (by kernel_rfl) (by rfl) (fun K hK => ?_)
          refine wp_store_c2 23 _ _ rfl (Y1.heap.size) rfl rfl (by kernel_rfl) 23 r16_Y4 ?_
          intro Y5 HN HO HB
          have h5 := h4.trans (HB.out.mono b16)
          have r16_Y5 := HN.out
          have r17_Y5 := CRow.other r17_Y4 HO.out ne.symm
          refine hK.out _ _ h5 (fun _ => ?_)
          clear hK K HN HO HB
          try simp only [Act.put]
          refine only_ 11 rfl (by kernel_rfl) (by rfl) (fun K hK => ?_)
          refine wp_store_c2 43 _ _ rfl (Y3.heap.size) rfl rfl (by kernel_rfl) 43 r17_Y5 ?_
          intro Y6 HN HO HB
          have h6 := h5.trans (HB.out.mono b17)
          have r17_Y6 := HN.out
          have r16_Y6 := CRow.other r16_Y5 HO.out ne
          refine hK.out _ _ h6 (fun _ => ?_)
          clear hK K HN HO HB
          try simp only [Act.put]
          refine wpAnyH_done (by kernel_rfl) ?_ _
          refine NoPanic.normal ?_
          go_wp2
          go_meet
          case rel => exact ⟨_, _, _, rfl, rfl, rfl, r16_Y6, r17_Y6, h6⟩
        refine AllReadyH.cons rfl (fun K hK => ?_) ?_
        · rw [if_pos (by rfl)]
          refine wp_of_run (w' := Y2.alloc (.cells #[.int .u8 0, .int .u8 0] 43)) (.pointer (some ⟨Y2.heap.size, 0, none⟩)) (by kernel_rfl) ?_
          have h3 := h2.alloc h2.size (.cells #[.int .u8 0, .int .u8 0] 43)
          have r17_Y3 : CRow _ Y2.heap.size 43 ⟨0, 0⟩ := alloc_at Y2 (.cells #[.int .u8 0, .int .u8 0] 43)
          have b17 := h2.size
          have r16_Y3 := CRow.below r16_Y2 ((Below.refl _ _).alloc (Nat.le_refl _) (.cells #[.int .u8 0, .int .u8 0] 43)) r16_Y2.lt
          have ne := Nat.ne_of_lt r16_Y2.lt
          refine hK.out _ _ h3 (fun _ => ?_)
          clear hK K
          generalize Y2.alloc (.cells #[.int .u8 0, .int .u8 0] 43) = Y3 at *
          show wpAnyH _ _ _ _ _ _ _ (Act.put _ (some 17) _) _
          try simp only [Act.put, List.setIfInBounds_toArray, List.set_cons_zero, List.set_cons_succ]
          refine only_ 7 rfl (by kernel_rfl) (by rfl) (fun K hK => ?_)
          refine wp_call_ret 15 _ _ rfl _ (by rfl) (by kernel_rfl) _ (K2.out _) (fun Y4 hB => ?_)
          have h4 := h3.trans (hB.mono h3.size)
          have r16_Y4 := CRow.below r16_Y3 hB r16_Y3.lt
          have r17_Y4 := CRow.below r17_Y3 hB r17_Y3.lt
          refine hK.out _ _ h4 (fun _ => ?_)
          clear hK K hB
          show wpAnyH _ _ _ _ _ _ _ (Act.put _ (some 58) _) _
          try simp only [Act.put, List.setIfInBounds_toArray, List.set_cons_zero, List.set_cons_succ]
          refine only_ 10 rfl (by kernel_rfl) (by rfl) (fun K hK => ?_)
          refine wp_store_c2 23 _ _ rfl (Y1.heap.size) rfl rfl (by kernel_rfl) 23 r16_Y4 ?_
          intro Y5 HN HO HB
          have h5 := h4.trans (HB.out.mono b16)
          have r16_Y5 := HN.out
          have r17_Y5 := CRow.other r17_Y4 HO.out ne.symm
          refine hK.out _ _ h5 (fun _ => ?_)
          clear hK K HN HO HB
          try simp only [Act.put]
          refine only_ 11 rfl (by kernel_rfl) (by rfl) (fun K hK => ?_)
          refine wp_store_c2 43 _ _ rfl (Y2.heap.size) rfl rfl (by kernel_rfl) 43 r17_Y5 ?_
          intro Y6 HN HO HB
          have h6 := h5.trans (HB.out.mono b17)
          have r17_Y6 := HN.out
          have r16_Y6 := CRow.other r16_Y5 HO.out ne
          refine hK.out _ _ h6 (fun _ => ?_)
          clear hK K HN HO HB
          try simp only [Act.put]
          refine wpAnyH_done (by kernel_rfl) ?_ _
          refine NoPanic.normal ?_
          go_wp2
          go_meet
          case rel => exact ⟨_, _, _, rfl, rfl, rfl, r16_Y6, r17_Y6, h6⟩
        exact AllReadyH.nil
      refine AllReadyH.cons rfl (fun K hK => ?_) ?_
      · rw [if_pos (by rfl)]
        refine wp_of_run (w' := Y1.alloc (.cells #[.int .u8 0, .int .u8 0] 43)) (.pointer (some ⟨Y1.heap.size, 0, none⟩)) (by kernel_rfl) ?_
        have h2 := h1.alloc h1.size (.cells #[.int .u8 0, .int .u8 0] 43)
        have r17_Y2 : CRow _ Y1.heap.size 43 ⟨0, 0⟩ := alloc_at Y1 (.cells #[.int .u8 0, .int .u8 0] 43)
        have b17 := h1.size
        refine hK.out _ _ h2 (fun _ => ?_)
        clear hK K
        generalize Y1.alloc (.cells #[.int .u8 0, .int .u8 0] 43) = Y2 at *
        show wpAnyH _ _ _ _ _ _ _ (Act.put _ (some 17) _) _
        try simp only [Act.put, List.setIfInBounds_toArray, List.set_cons_zero, List.set_cons_succ]
        refine wpAnyH_ready (rs := [7, 8]) (by kernel_rfl) (by simp) ?_
        refine AllReadyH.cons rfl (fun K hK => ?_) ?_
        · rw [if_pos (by rfl)]
          refine wp_call_ret 15 _ _ rfl _ (by rfl) (by kernel_rfl) _ (K2.out _) (fun Y3 hB => ?_)
          have h3 := h2.trans (hB.mono h2.size)
          have r17_Y3 := CRow.below r17_Y2 hB r17_Y2.lt
          refine hK.out _ _ h3 (fun _ => ?_)
          clear hK K hB
          show wpAnyH _ _ _ _ _ _ _ (Act.put _ (some 58) _) _
          try simp only [Act.put, List.setIfInBounds_toArray, List.set_cons_zero, List.set_cons_succ]
          refine only_ 8 rfl (by kernel_rfl) (by rfl) (fun K hK => ?_)
          refine wp_of_run (w' := Y3.alloc (.cells #[.int .u8 0, .int .u8 0] 23)) (.pointer (some ⟨Y3.heap.size, 0, none⟩)) (by kernel_rfl) ?_
          have h4 := h3.alloc h3.size (.cells #[.int .u8 0, .int .u8 0] 23)
          have r16_Y4 : CRow _ Y3.heap.size 23 ⟨0, 0⟩ := alloc_at Y3 (.cells #[.int .u8 0, .int .u8 0] 23)
          have b16 := h3.size
          have r17_Y4 := CRow.below r17_Y3 ((Below.refl _ _).alloc (Nat.le_refl _) (.cells #[.int .u8 0, .int .u8 0] 23)) r17_Y3.lt
          have ne := Nat.ne_of_lt r17_Y3.lt
          refine hK.out _ _ h4 (fun _ => ?_)
          clear hK K
          generalize Y3.alloc (.cells #[.int .u8 0, .int .u8 0] 23) = Y4 at *
          show wpAnyH _ _ _ _ _ _ _ (Act.put _ (some 16) _) _
          try simp only [Act.put, List.setIfInBounds_toArray, List.set_cons_zero, List.set_cons_succ]
          refine only_ 10 rfl (by kernel_rfl) (by rfl) (fun K hK => ?_)
          refine wp_store_c2 23 _ _ rfl (Y3.heap.size) rfl rfl (by kernel_rfl) 23 r16_Y4 ?_
          intro Y5 HN HO HB
          have h5 := h4.trans (HB.out.mono b16)
          have r16_Y5 := HN.out
          have r17_Y5 := CRow.other r17_Y4 HO.out ne
          refine hK.out _ _ h5 (fun _ => ?_)
          clear hK K HN HO HB
          try simp only [Act.put]
          refine only_ 11 rfl (by kernel_rfl) (by rfl) (fun K hK => ?_)
          refine wp_store_c2 43 _ _ rfl (Y1.heap.size) rfl rfl (by kernel_rfl) 43 r17_Y5 ?_
          intro Y6 HN HO HB
          have h6 := h5.trans (HB.out.mono b17)
          have r17_Y6 := HN.out
          have r16_Y6 := CRow.other r16_Y5 HO.out ne.symm
          refine hK.out _ _ h6 (fun _ => ?_)
          clear hK K HN HO HB
          try simp only [Act.put]
          refine wpAnyH_done (by kernel_rfl) ?_ _
          refine NoPanic.normal ?_
          go_wp2
          go_meet
          case rel => exact ⟨_, _, _, rfl, rfl, rfl, r16_Y6, r17_Y6, h6⟩
        refine AllReadyH.cons rfl (fun K hK => ?_) ?_
        · rw [if_pos (by rfl)]
          refine wp_of_run (w' := Y2.alloc (.cells #[.int .u8 0, .int .u8 0] 23)) (.pointer (some ⟨Y2.heap.size, 0, none⟩)) (by kernel_rfl) ?_
          have h3 := h2.alloc h2.size (.cells #[.int .u8 0, .int .u8 0] 23)
          have r16_Y3 : CRow _ Y2.heap.size 23 ⟨0, 0⟩ := alloc_at Y2 (.cells #[.int .u8 0, .int .u8 0] 23)
          have b16 := h2.size
          have r17_Y3 := CRow.below r17_Y2 ((Below.refl _ _).alloc (Nat.le_refl _) (.cells #[.int .u8 0, .int .u8 0] 23)) r17_Y2.lt
          have ne := Nat.ne_of_lt r17_Y2.lt
          refine hK.out _ _ h3 (fun _ => ?_)
          clear hK K
          generalize Y2.alloc (.cells #[.int .u8 0, .int .u8 0] 23) = Y3 at *
          show wpAnyH _ _ _ _ _ _ _ (Act.put _ (some 16) _) _
          try simp only [Act.put, List.setIfInBounds_toArray, List.set_cons_zero, List.set_cons_succ]
          refine only_ 7 rfl (by kernel_rfl) (by rfl) (fun K hK => ?_)
          refine wp_call_ret 15 _ _ rfl _ (by rfl) (by kernel_rfl) _ (K2.out _) (fun Y4 hB => ?_)
          have h4 := h3.trans (hB.mono h3.size)
          have r17_Y4 := CRow.below r17_Y3 hB r17_Y3.lt
          have r16_Y4 := CRow.below r16_Y3 hB r16_Y3.lt
          refine hK.out _ _ h4 (fun _ => ?_)
          clear hK K hB
          show wpAnyH _ _ _ _ _ _ _ (Act.put _ (some 58) _) _
          try simp only [Act.put, List.setIfInBounds_toArray, List.set_cons_zero, List.set_cons_succ]
          refine only_ 10 rfl (by kernel_rfl) (by rfl) (fun K hK => ?_)
          refine wp_store_c2 23 _ _ rfl (Y2.heap.size) rfl rfl (by kernel_rfl) 23 r16_Y4 ?_
          intro Y5 HN HO HB
          have h5 := h4.trans (HB.out.mono b16)
          have r16_Y5 := HN.out
          have r17_Y5 := CRow.other r17_Y4 HO.out ne
          refine hK.out _ _ h5 (fun _ => ?_)
          clear hK K HN HO HB
          try simp only [Act.put]
          refine only_ 11 rfl (by kernel_rfl) (by rfl) (fun K hK => ?_)
          refine wp_store_c2 43 _ _ rfl (Y1.heap.size) rfl rfl (by kernel_rfl) 43 r17_Y5 ?_
          intro Y6 HN HO HB
          have h6 := h5.trans (HB.out.mono b17)
          have r17_Y6 := HN.out
          have r16_Y6 := CRow.other r16_Y5 HO.out ne.symm
          refine hK.out _ _ h6 (fun _ => ?_)
          clear hK K HN HO HB
          try simp only [Act.put]
          refine wpAnyH_done (by kernel_rfl) ?_ _
          refine NoPanic.normal ?_
          go_wp2
          go_meet
          case rel => exact ⟨_, _, _, rfl, rfl, rfl, r16_Y6, r17_Y6, h6⟩
        exact AllReadyH.nil
      exact AllReadyH.nil
    refine AllReadyH.cons rfl (fun K hK => ?_) ?_
    · rw [if_pos (by rfl)]
      refine wp_of_run (w' := Y0.alloc (.cells #[.int .u8 0, .int .u8 0] 23)) (.pointer (some ⟨Y0.heap.size, 0, none⟩)) (by kernel_rfl) ?_
      have h1 := hHeld.alloc hHeld.size (.cells #[.int .u8 0, .int .u8 0] 23)
      have r16_Y1 : CRow _ Y0.heap.size 23 ⟨0, 0⟩ := alloc_at Y0 (.cells #[.int .u8 0, .int .u8 0] 23)
      have b16 := hHeld.size
      refine hK.out _ _ h1 (fun _ => ?_)
      clear hK K
      generalize Y0.alloc (.cells #[.int .u8 0, .int .u8 0] 23) = Y1 at *
      show wpAnyH _ _ _ _ _ _ _ (Act.put _ (some 16) _) _
      try simp only [Act.put, List.setIfInBounds_toArray, List.set_cons_zero, List.set_cons_succ]
      refine wpAnyH_ready (rs := [3, 9]) (by kernel_rfl) (by simp) ?_
      refine AllReadyH.cons rfl (fun K hK => ?_) ?_
      · rw [if_pos (by rfl)]
        refine wp_call_ret 9 _ _ rfl _ (by rfl) (by kernel_rfl) _ (K1.out _) (fun Y2 hB => ?_)
        have h2 := h1.trans (hB.mono h1.size)
        have r16_Y2 := CRow.below r16_Y1 hB r16_Y1.lt
        refine hK.out _ _ h2 (fun _ => ?_)
        clear hK K hB
        show wpAnyH _ _ _ _ _ _ _ (Act.put _ (some 54) _) _
        try simp only [Act.put, List.setIfInBounds_toArray, List.set_cons_zero, List.set_cons_succ]
        refine wpAnyH_ready (rs := [7, 9]) (by kernel_rfl) (by simp) ?_
        refine AllReadyH.cons rfl (fun K hK => ?_) ?_
        · rw [if_pos (by rfl)]
          refine wp_call_ret 15 _ _ rfl _ (by rfl) (by kernel_rfl) _ (K2.out _) (fun Y3 hB => ?_)
          have h3 := h2.trans (hB.mono h2.size)
          have r16_Y3 := CRow.below r16_Y2 hB r16_Y2.lt
          refine hK.out _ _ h3 (fun _ => ?_)
          clear hK K hB
          show wpAnyH _ _ _ _ _ _ _ (Act.put _ (some 58) _) _
          try simp only [Act.put, List.setIfInBounds_toArray, List.set_cons_zero, List.set_cons_succ]
          refine only_ 9 rfl (by kernel_rfl) (by rfl) (fun K hK => ?_)
          refine wp_of_run (w' := Y3.alloc (.cells #[.int .u8 0, .int .u8 0] 43)) (.pointer (some ⟨Y3.heap.size, 0, none⟩)) (by kernel_rfl) ?_
          have h4 := h3.alloc h3.size (.cells #[.int .u8 0, .int .u8 0] 43)
          have r17_Y4 : CRow _ Y3.heap.size 43 ⟨0, 0⟩ := alloc_at Y3 (.cells #[.int .u8 0, .int .u8 0] 43)
          have b17 := h3.size
          have r16_Y4 := CRow.below r16_Y3 ((Below.refl _ _).alloc (Nat.le_refl _) (.cells #[.int .u8 0, .int .u8 0] 43)) r16_Y3.lt
          have ne := Nat.ne_of_lt r16_Y3.lt
          refine hK.out _ _ h4 (fun _ => ?_)
          clear hK K
          generalize Y3.alloc (.cells #[.int .u8 0, .int .u8 0] 43) = Y4 at *
          show wpAnyH _ _ _ _ _ _ _ (Act.put _ (some 17) _) _
          try simp only [Act.put, List.setIfInBounds_toArray, List.set_cons_zero, List.set_cons_succ]
          refine only_ 10 rfl (by kernel_rfl) (by rfl) (fun K hK => ?_)
          refine wp_store_c2 23 _ _ rfl (Y0.heap.size) rfl rfl (by kernel_rfl) 23 r16_Y4 ?_
          intro Y5 HN HO HB
          have h5 := h4.trans (HB.out.mono b16)
          have r16_Y5 := HN.out
          have r17_Y5 := CRow.other r17_Y4 HO.out ne.symm
          refine hK.out _ _ h5 (fun _ => ?_)
          clear hK K HN HO HB
          try simp only [Act.put]
          refine only_ 11 rfl (by kernel_rfl) (by rfl) (fun K hK => ?_)
          refine wp_store_c2 43 _ _ rfl (Y3.heap.size) rfl rfl (by kernel_rfl) 43 r17_Y5 ?_
          intro Y6 HN HO HB
          have h6 := h5.trans (HB.out.mono b17)
          have r17_Y6 := HN.out
          have r16_Y6 := CRow.other r16_Y5 HO.out ne
          refine hK.out _ _ h6 (fun _ => ?_)
          clear hK K HN HO HB
          try simp only [Act.put]
          refine wpAnyH_done (by kernel_rfl) ?_ _
          refine NoPanic.normal ?_
          go_wp2
          go_meet
          case rel => exact ⟨_, _, _, rfl, rfl, rfl, r16_Y6, r17_Y6, h6⟩
        refine AllReadyH.cons rfl (fun K hK => ?_) ?_
        · rw [if_pos (by rfl)]
          refine wp_of_run (w' := Y2.alloc (.cells #[.int .u8 0, .int .u8 0] 43)) (.pointer (some ⟨Y2.heap.size, 0, none⟩)) (by kernel_rfl) ?_
          have h3 := h2.alloc h2.size (.cells #[.int .u8 0, .int .u8 0] 43)
          have r17_Y3 : CRow _ Y2.heap.size 43 ⟨0, 0⟩ := alloc_at Y2 (.cells #[.int .u8 0, .int .u8 0] 43)
          have b17 := h2.size
          have r16_Y3 := CRow.below r16_Y2 ((Below.refl _ _).alloc (Nat.le_refl _) (.cells #[.int .u8 0, .int .u8 0] 43)) r16_Y2.lt
          have ne := Nat.ne_of_lt r16_Y2.lt
          refine hK.out _ _ h3 (fun _ => ?_)
          clear hK K
          generalize Y2.alloc (.cells #[.int .u8 0, .int .u8 0] 43) = Y3 at *
          show wpAnyH _ _ _ _ _ _ _ (Act.put _ (some 17) _) _
          try simp only [Act.put, List.setIfInBounds_toArray, List.set_cons_zero, List.set_cons_succ]
          refine only_ 7 rfl (by kernel_rfl) (by rfl) (fun K hK => ?_)
          refine wp_call_ret 15 _ _ rfl _ (by rfl) (by kernel_rfl) _ (K2.out _) (fun Y4 hB => ?_)
          have h4 := h3.trans (hB.mono h3.size)
          have r16_Y4 := CRow.below r16_Y3 hB r16_Y3.lt
          have r17_Y4 := CRow.below r17_Y3 hB r17_Y3.lt
          refine hK.out _ _ h4 (fun _ => ?_)
          clear hK K hB
          show wpAnyH _ _ _ _ _ _ _ (Act.put _ (some 58) _) _
          try simp only [Act.put, List.setIfInBounds_toArray, List.set_cons_zero, List.set_cons_succ]
          refine only_ 10 rfl (by kernel_rfl) (by rfl) (fun K hK => ?_)
          refine wp_store_c2 23 _ _ rfl (Y0.heap.size) rfl rfl (by kernel_rfl) 23 r16_Y4 ?_
          intro Y5 HN HO HB
          have h5 := h4.trans (HB.out.mono b16)
          have r16_Y5 := HN.out
          have r17_Y5 := CRow.other r17_Y4 HO.out ne.symm
          refine hK.out _ _ h5 (fun _ => ?_)
          clear hK K HN HO HB
          try simp only [Act.put]
          refine only_ 11 rfl (by kernel_rfl) (by rfl) (fun K hK => ?_)
          refine wp_store_c2 43 _ _ rfl (Y2.heap.size) rfl rfl (by kernel_rfl) 43 r17_Y5 ?_
          intro Y6 HN HO HB
          have h6 := h5.trans (HB.out.mono b17)
          have r17_Y6 := HN.out
          have r16_Y6 := CRow.other r16_Y5 HO.out ne
          refine hK.out _ _ h6 (fun _ => ?_)
          clear hK K HN HO HB
          try simp only [Act.put]
          refine wpAnyH_done (by kernel_rfl) ?_ _
          refine NoPanic.normal ?_
          go_wp2
          go_meet
          case rel => exact ⟨_, _, _, rfl, rfl, rfl, r16_Y6, r17_Y6, h6⟩
        exact AllReadyH.nil
      refine AllReadyH.cons rfl (fun K hK => ?_) ?_
      · rw [if_pos (by rfl)]
        refine wp_of_run (w' := Y1.alloc (.cells #[.int .u8 0, .int .u8 0] 43)) (.pointer (some ⟨Y1.heap.size, 0, none⟩)) (by kernel_rfl) ?_
        have h2 := h1.alloc h1.size (.cells #[.int .u8 0, .int .u8 0] 43)
        have r17_Y2 : CRow _ Y1.heap.size 43 ⟨0, 0⟩ := alloc_at Y1 (.cells #[.int .u8 0, .int .u8 0] 43)
        have b17 := h1.size
        have r16_Y2 := CRow.below r16_Y1 ((Below.refl _ _).alloc (Nat.le_refl _) (.cells #[.int .u8 0, .int .u8 0] 43)) r16_Y1.lt
        have ne := Nat.ne_of_lt r16_Y1.lt
        refine hK.out _ _ h2 (fun _ => ?_)
        clear hK K
        generalize Y1.alloc (.cells #[.int .u8 0, .int .u8 0] 43) = Y2 at *
        show wpAnyH _ _ _ _ _ _ _ (Act.put _ (some 17) _) _
        try simp only [Act.put, List.setIfInBounds_toArray, List.set_cons_zero, List.set_cons_succ]
        refine only_ 3 rfl (by kernel_rfl) (by rfl) (fun K hK => ?_)
        refine wp_call_ret 9 _ _ rfl _ (by rfl) (by kernel_rfl) _ (K1.out _) (fun Y3 hB => ?_)
        have h3 := h2.trans (hB.mono h2.size)
        have r16_Y3 := CRow.below r16_Y2 hB r16_Y2.lt
        have r17_Y3 := CRow.below r17_Y2 hB r17_Y2.lt
        refine hK.out _ _ h3 (fun _ => ?_)
        clear hK K hB
        show wpAnyH _ _ _ _ _ _ _ (Act.put _ (some 54) _) _
        try simp only [Act.put, List.setIfInBounds_toArray, List.set_cons_zero, List.set_cons_succ]
        refine only_ 7 rfl (by kernel_rfl) (by rfl) (fun K hK => ?_)
        refine wp_call_ret 15 _ _ rfl _ (by rfl) (by kernel_rfl) _ (K2.out _) (fun Y4 hB => ?_)
        have h4 := h3.trans (hB.mono h3.size)
        have r16_Y4 := CRow.below r16_Y3 hB r16_Y3.lt
        have r17_Y4 := CRow.below r17_Y3 hB r17_Y3.lt
        refine hK.out _ _ h4 (fun _ => ?_)
        clear hK K hB
        show wpAnyH _ _ _ _ _ _ _ (Act.put _ (some 58) _) _
        try simp only [Act.put, List.setIfInBounds_toArray, List.set_cons_zero, List.set_cons_succ]
        refine only_ 10 rfl (by kernel_rfl) (by rfl) (fun K hK => ?_)
        refine wp_store_c2 23 _ _ rfl (Y0.heap.size) rfl rfl (by kernel_rfl) 23 r16_Y4 ?_
        intro Y5 HN HO HB
        have h5 := h4.trans (HB.out.mono b16)
        have r16_Y5 := HN.out
        have r17_Y5 := CRow.other r17_Y4 HO.out ne.symm
        refine hK.out _ _ h5 (fun _ => ?_)
        clear hK K HN HO HB
        try simp only [Act.put]
        refine only_ 11 rfl (by kernel_rfl) (by rfl) (fun K hK => ?_)
        refine wp_store_c2 43 _ _ rfl (Y1.heap.size) rfl rfl (by kernel_rfl) 43 r17_Y5 ?_
        intro Y6 HN HO HB
        have h6 := h5.trans (HB.out.mono b17)
        have r17_Y6 := HN.out
        have r16_Y6 := CRow.other r16_Y5 HO.out ne
        refine hK.out _ _ h6 (fun _ => ?_)
        clear hK K HN HO HB
        try simp only [Act.put]
        refine wpAnyH_done (by kernel_rfl) ?_ _
        refine NoPanic.normal ?_
        go_wp2
        go_meet
        case rel => exact ⟨_, _, _, rfl, rfl, rfl, r16_Y6, r17_Y6, h6⟩
      exact AllReadyH.nil
    refine AllReadyH.cons rfl (fun K hK => ?_) ?_
    · rw [if_pos (by rfl)]
      refine wp_of_run (w' := Y0.alloc (.cells #[.int .u8 0, .int .u8 0] 43)) (.pointer (some ⟨Y0.heap.size, 0, none⟩)) (by kernel_rfl) ?_
      have h1 := hHeld.alloc hHeld.size (.cells #[.int .u8 0, .int .u8 0] 43)
      have r17_Y1 : CRow _ Y0.heap.size 43 ⟨0, 0⟩ := alloc_at Y0 (.cells #[.int .u8 0, .int .u8 0] 43)
      have b17 := hHeld.size
      refine hK.out _ _ h1 (fun _ => ?_)
      clear hK K
      generalize Y0.alloc (.cells #[.int .u8 0, .int .u8 0] 43) = Y1 at *
      show wpAnyH _ _ _ _ _ _ _ (Act.put _ (some 17) _) _
      try simp only [Act.put, List.setIfInBounds_toArray, List.set_cons_zero, List.set_cons_succ]
      refine wpAnyH_ready (rs := [3, 8]) (by kernel_rfl) (by simp) ?_
      refine AllReadyH.cons rfl (fun K hK => ?_) ?_
      · rw [if_pos (by rfl)]
        refine wp_call_ret 9 _ _ rfl _ (by rfl) (by kernel_rfl) _ (K1.out _) (fun Y2 hB => ?_)
        have h2 := h1.trans (hB.mono h1.size)
        have r17_Y2 := CRow.below r17_Y1 hB r17_Y1.lt
        refine hK.out _ _ h2 (fun _ => ?_)
        clear hK K hB
        show wpAnyH _ _ _ _ _ _ _ (Act.put _ (some 54) _) _
        try simp only [Act.put, List.setIfInBounds_toArray, List.set_cons_zero, List.set_cons_succ]
        refine wpAnyH_ready (rs := [7, 8]) (by kernel_rfl) (by simp) ?_
        refine AllReadyH.cons rfl (fun K hK => ?_) ?_
        · rw [if_pos (by rfl)]
          refine wp_call_ret 15 _ _ rfl _ (by rfl) (by kernel_rfl) _ (K2.out _) (fun Y3 hB => ?_)
          have h3 := h2.trans (hB.mono h2.size)
          have r17_Y3 := CRow.below r17_Y2 hB r17_Y2.lt
          refine hK.out _ _ h3 (fun _ => ?_)
          clear hK K hB
          show wpAnyH _ _ _ _ _ _ _ (Act.put _ (some 58) _) _
          try simp only [Act.put, List.setIfInBounds_toArray, List.set_cons_zero, List.set_cons_succ]
          refine only_ 8 rfl (by kernel_rfl) (by rfl) (fun K hK => ?_)
          refine wp_of_run (w' := Y3.alloc (.cells #[.int .u8 0, .int .u8 0] 23)) (.pointer (some ⟨Y3.heap.size, 0, none⟩)) (by kernel_rfl) ?_
          have h4 := h3.alloc h3.size (.cells #[.int .u8 0, .int .u8 0] 23)
          have r16_Y4 : CRow _ Y3.heap.size 23 ⟨0, 0⟩ := alloc_at Y3 (.cells #[.int .u8 0, .int .u8 0] 23)
          have b16 := h3.size
          have r17_Y4 := CRow.below r17_Y3 ((Below.refl _ _).alloc (Nat.le_refl _) (.cells #[.int .u8 0, .int .u8 0] 23)) r17_Y3.lt
          have ne := Nat.ne_of_lt r17_Y3.lt
          refine hK.out _ _ h4 (fun _ => ?_)
          clear hK K
          generalize Y3.alloc (.cells #[.int .u8 0, .int .u8 0] 23) = Y4 at *
          show wpAnyH _ _ _ _ _ _ _ (Act.put _ (some 16) _) _
          try simp only [Act.put, List.setIfInBounds_toArray, List.set_cons_zero, List.set_cons_succ]
          refine only_ 10 rfl (by kernel_rfl) (by rfl) (fun K hK => ?_)
          refine wp_store_c2 23 _ _ rfl (Y3.heap.size) rfl rfl (by kernel_rfl) 23 r16_Y4 ?_
          intro Y5 HN HO HB
          have h5 := h4.trans (HB.out.mono b16)
          have r16_Y5 := HN.out
          have r17_Y5 := CRow.other r17_Y4 HO.out ne
          refine hK.out _ _ h5 (fun _ => ?_)
          clear hK K HN HO HB
          try simp only [Act.put]
          refine only_ 11 rfl (by kernel_rfl) (by rfl) (fun K hK => ?_)
          refine wp_store_c2 43 _ _ rfl (Y0.heap.size) rfl rfl (by kernel_rfl) 43 r17_Y5 ?_
          intro Y6 HN HO HB
          have h6 := h5.trans (HB.out.mono b17)
          have r17_Y6 := HN.out
          have r16_Y6 := CRow.other r16_Y5 HO.out ne.symm
          refine hK.out _ _ h6 (fun _ => ?_)
          clear hK K HN HO HB
          try simp only [Act.put]
          refine wpAnyH_done (by kernel_rfl) ?_ _
          refine NoPanic.normal ?_
          go_wp2
          go_meet
          case rel => exact ⟨_, _, _, rfl, rfl, rfl, r16_Y6, r17_Y6, h6⟩
        refine AllReadyH.cons rfl (fun K hK => ?_) ?_
        · rw [if_pos (by rfl)]
          refine wp_of_run (w' := Y2.alloc (.cells #[.int .u8 0, .int .u8 0] 23)) (.pointer (some ⟨Y2.heap.size, 0, none⟩)) (by kernel_rfl) ?_
          have h3 := h2.alloc h2.size (.cells #[.int .u8 0, .int .u8 0] 23)
          have r16_Y3 : CRow _ Y2.heap.size 23 ⟨0, 0⟩ := alloc_at Y2 (.cells #[.int .u8 0, .int .u8 0] 23)
          have b16 := h2.size
          have r17_Y3 := CRow.below r17_Y2 ((Below.refl _ _).alloc (Nat.le_refl _) (.cells #[.int .u8 0, .int .u8 0] 23)) r17_Y2.lt
          have ne := Nat.ne_of_lt r17_Y2.lt
          refine hK.out _ _ h3 (fun _ => ?_)
          clear hK K
          generalize Y2.alloc (.cells #[.int .u8 0, .int .u8 0] 23) = Y3 at *
          show wpAnyH _ _ _ _ _ _ _ (Act.put _ (some 16) _) _
          try simp only [Act.put, List.setIfInBounds_toArray, List.set_cons_zero, List.set_cons_succ]
          refine only_ 7 rfl (by kernel_rfl) (by rfl) (fun K hK => ?_)
          refine wp_call_ret 15 _ _ rfl _ (by rfl) (by kernel_rfl) _ (K2.out _) (fun Y4 hB => ?_)
          have h4 := h3.trans (hB.mono h3.size)
          have r17_Y4 := CRow.below r17_Y3 hB r17_Y3.lt
          have r16_Y4 := CRow.below r16_Y3 hB r16_Y3.lt
          refine hK.out _ _ h4 (fun _ => ?_)
          clear hK K hB
          show wpAnyH _ _ _ _ _ _ _ (Act.put _ (some 58) _) _
          try simp only [Act.put, List.setIfInBounds_toArray, List.set_cons_zero, List.set_cons_succ]
          refine only_ 10 rfl (by kernel_rfl) (by rfl) (fun K hK => ?_)
          refine wp_store_c2 23 _ _ rfl (Y2.heap.size) rfl rfl (by kernel_rfl) 23 r16_Y4 ?_
          intro Y5 HN HO HB
          have h5 := h4.trans (HB.out.mono b16)
          have r16_Y5 := HN.out
          have r17_Y5 := CRow.other r17_Y4 HO.out ne
          refine hK.out _ _ h5 (fun _ => ?_)
          clear hK K HN HO HB
          try simp only [Act.put]
          refine only_ 11 rfl (by kernel_rfl) (by rfl) (fun K hK => ?_)
          refine wp_store_c2 43 _ _ rfl (Y0.heap.size) rfl rfl (by kernel_rfl) 43 r17_Y5 ?_
          intro Y6 HN HO HB
          have h6 := h5.trans (HB.out.mono b17)
          have r17_Y6 := HN.out
          have r16_Y6 := CRow.other r16_Y5 HO.out ne.symm
          refine hK.out _ _ h6 (fun _ => ?_)
          clear hK K HN HO HB
          try simp only [Act.put]
          refine wpAnyH_done (by kernel_rfl) ?_ _
          refine NoPanic.normal ?_
          go_wp2
          go_meet
          case rel => exact ⟨_, _, _, rfl, rfl, rfl, r16_Y6, r17_Y6, h6⟩
        exact AllReadyH.nil
      refine AllReadyH.cons rfl (fun K hK => ?_) ?_
      · rw [if_pos (by rfl)]
        refine wp_of_run (w' := Y1.alloc (.cells #[.int .u8 0, .int .u8 0] 23)) (.pointer (some ⟨Y1.heap.size, 0, none⟩)) (by kernel_rfl) ?_
        have h2 := h1.alloc h1.size (.cells #[.int .u8 0, .int .u8 0] 23)
        have r16_Y2 : CRow _ Y1.heap.size 23 ⟨0, 0⟩ := alloc_at Y1 (.cells #[.int .u8 0, .int .u8 0] 23)
        have b16 := h1.size
        have r17_Y2 := CRow.below r17_Y1 ((Below.refl _ _).alloc (Nat.le_refl _) (.cells #[.int .u8 0, .int .u8 0] 23)) r17_Y1.lt
        have ne := Nat.ne_of_lt r17_Y1.lt
        refine hK.out _ _ h2 (fun _ => ?_)
        clear hK K
        generalize Y1.alloc (.cells #[.int .u8 0, .int .u8 0] 23) = Y2 at *
        show wpAnyH _ _ _ _ _ _ _ (Act.put _ (some 16) _) _
        try simp only [Act.put, List.setIfInBounds_toArray, List.set_cons_zero, List.set_cons_succ]
        refine only_ 3 rfl (by kernel_rfl) (by rfl) (fun K hK => ?_)
        refine wp_call_ret 9 _ _ rfl _ (by rfl) (by kernel_rfl) _ (K1.out _) (fun Y3 hB => ?_)
        have h3 := h2.trans (hB.mono h2.size)
        have r17_Y3 := CRow.below r17_Y2 hB r17_Y2.lt
        have r16_Y3 := CRow.below r16_Y2 hB r16_Y2.lt
        refine hK.out _ _ h3 (fun _ => ?_)
        clear hK K hB
        show wpAnyH _ _ _ _ _ _ _ (Act.put _ (some 54) _) _
        try simp only [Act.put, List.setIfInBounds_toArray, List.set_cons_zero, List.set_cons_succ]
        refine only_ 7 rfl (by kernel_rfl) (by rfl) (fun K hK => ?_)
        refine wp_call_ret 15 _ _ rfl _ (by rfl) (by kernel_rfl) _ (K2.out _) (fun Y4 hB => ?_)
        have h4 := h3.trans (hB.mono h3.size)
        have r17_Y4 := CRow.below r17_Y3 hB r17_Y3.lt
        have r16_Y4 := CRow.below r16_Y3 hB r16_Y3.lt
        refine hK.out _ _ h4 (fun _ => ?_)
        clear hK K hB
        show wpAnyH _ _ _ _ _ _ _ (Act.put _ (some 58) _) _
        try simp only [Act.put, List.setIfInBounds_toArray, List.set_cons_zero, List.set_cons_succ]
        refine only_ 10 rfl (by kernel_rfl) (by rfl) (fun K hK => ?_)
        refine wp_store_c2 23 _ _ rfl (Y1.heap.size) rfl rfl (by kernel_rfl) 23 r16_Y4 ?_
        intro Y5 HN HO HB
        have h5 := h4.trans (HB.out.mono b16)
        have r16_Y5 := HN.out
        have r17_Y5 := CRow.other r17_Y4 HO.out ne
        refine hK.out _ _ h5 (fun _ => ?_)
        clear hK K HN HO HB
        try simp only [Act.put]
        refine only_ 11 rfl (by kernel_rfl) (by rfl) (fun K hK => ?_)
        refine wp_store_c2 43 _ _ rfl (Y0.heap.size) rfl rfl (by kernel_rfl) 43 r17_Y5 ?_
        intro Y6 HN HO HB
        have h6 := h5.trans (HB.out.mono b17)
        have r17_Y6 := HN.out
        have r16_Y6 := CRow.other r16_Y5 HO.out ne.symm
        refine hK.out _ _ h6 (fun _ => ?_)
        clear hK K HN HO HB
        try simp only [Act.put]
        refine wpAnyH_done (by kernel_rfl) ?_ _
        refine NoPanic.normal ?_
        go_wp2
        go_meet
        case rel => exact ⟨_, _, _, rfl, rfl, rfl, r16_Y6, r17_Y6, h6⟩
      exact AllReadyH.nil
    exact AllReadyH.nil
  case rest =>
    obtain ⟨w4, b16, b17, rfl, rfl, rfl, q1, q2, q3⟩ := hcut
    have RC_w4 : Hid (CRow w4 gc 23 (c)) := Lib.hid (CRow.below RC_w3.out q3 RC_w3.out.lt)
    have RP_w4 : Hid (PRow w4 gp (ps)) := Lib.hid (PRow.below RP_w3.out q3 RP_w3.out.lt)
    have RA_w4 : Hid (VRow w4 ga 26 (asc lv cr mk)) := Lib.hid (VRow.below RA_w3.out q3 RA_w3.out.lt)
    have RR_w4 : Hid (CRow w4 gr 43 (c)) := Lib.hid (CRow.below RR_w3.out q3 RR_w3.out.lt)
    have RX_w4 : Hid (CRow w4 b16 23 (cw)) := Lib.hid q1
    have RY_w4 : Hid (CRow w4 b17 43 (cw)) := Lib.hid q2
    have BB_w4 : Hid (Below w.heap.size w w4) := Lib.hid (BB_w3.out.trans (q3.mono BB_w3.out.size))
    clear q1 q2 q3 RC_w3 RP_w3 RA_w3 RR_w3 BB_w3
    go_upto_region 5 with fail
    go_cut [18, 19] (fun xv yv wx => ∃ (Wc : World) (b1 b2 : Nat), Wc = wx ∧ xv = .pointer (some ⟨b1, 0, none⟩) ∧ yv = .pointer (some ⟨b2, 0, none⟩) ∧ CRow Wc b1 23 (cq) ∧ CRow Wc b2 43 (cq) ∧ Below w4.heap.size w4 Wc)
    case first =>
      refine wp_region_noPanic ?_
      refine wp_region_held_drew (S := fun X => Below w4.heap.size w4 X) (by kernel_rfl) ((Below.refl _ w4).drew) (fun hHeld => ?_)
      obtain ⟨Y0, hY0⟩ : ∃ Y, w4.drew = Y := ⟨_, rfl⟩
      rw [hY0] at hHeld ⊢
      clear hY0
      have g0 := hHeld
      refine' take_ 0 rfl (by kernel_rfl) (by kernel_rfl) (by kernel_rfl) (fun _ _ _ h => h) (by rfl) (fun wS hSw => run_load_c wS 23 _ gc rfl _ Try.underlying23 (by kernel_rfl) 23 (RC_w4.out.below hSw RC_w4.out.lt) _ _ _ _ _) g0 ?_
      try simp only [Act.put, List.setIfInBounds_toArray, List.set_cons_zero, List.set_cons_succ]
      refine' take_ 1 rfl (by kernel_rfl) (by kernel_rfl) (by kernel_rfl) (fun _ _ _ h => h) (by rfl) (fun wS hSw => ?_) hHeld ?_
      rotate_left
      focus (go_simp; (try with_reducible rfl); done)
      try simp only [Act.put, List.setIfInBounds_toArray, List.set_cons_zero, List.set_cons_succ]
      refine' take_ 2 rfl (by kernel_rfl) (by kernel_rfl) (by kernel_rfl) (fun _ _ _ h => h) (by rfl) (fun wS hSw => ?_) hHeld ?_
      rotate_left
      focus (go_simp; (first | rw [HW.out] | rw [HW2.out]); (try with_reducible rfl); done)
      try simp only [Act.put, List.setIfInBounds_toArray, List.set_cons_zero, List.set_cons_succ]
      refine' take_ 4 rfl (by kernel_rfl) (by kernel_rfl) (by kernel_rfl) (fun _ _ _ h => h) (by rfl) (fun wS hSw => run_load_c wS 43 _ gr rfl _ Try.underlying43 (by kernel_rfl) 43 (RR_w4.out.below hSw RR_w4.out.lt) _ _ _ _ _) g0 ?_
      try simp only [Act.put, List.setIfInBounds_toArray, List.set_cons_zero, List.set_cons_succ]
      refine' take_ 5 rfl (by kernel_rfl) (by kernel_rfl) (by kernel_rfl) (fun _ _ _ h => h) (by rfl) (fun wS hSw => ?_) hHeld ?_
      rotate_left
      focus (go_simp; (try with_reducible rfl); done)
      try simp only [Act.put, List.setIfInBounds_toArray, List.set_cons_zero, List.set_cons_succ]
      refine' take_ 6 rfl (by kernel_rfl) (by kernel_rfl) (by kernel_rfl) (fun _ _ _ h => h) (by rfl) (fun wS hSw => ?_) hHeld ?_
      rotate_left
      focus (go_simp; (first | rw [HW.out] | rw [HW2.out]); (try with_reducible rfl); done)
      try simp only [Act.put, List.setIfInBounds_toArray, List.set_cons_zero, List.set_cons_succ]
      refine wpAnyH_ready (rs := [3, 8, 9]) (by kernel_rfl) (by simp) ?_
      refine AllReadyH.cons rfl (fun K hK => ?_) ?_
      · rw [if_pos (by rfl)]
        refine wp_call_ret 8 _ _ rfl _ (by rfl) (by kernel_rfl) _ (K3.out _) (fun Y1 hB => ?_)
        have h1 := hHeld.trans (hB.mono hHeld.size)
        refine hK.out _ _ h1 (fun _ => ?_)
        clear hK K hB
        show wpAnyH _ _ _ _ _ _ _ (Act.put _ (some 62) _) _
        try simp only [Act.put, List.setIfInBounds_toArray, List.set_cons_zero, List.set_cons_succ]
        refine wpAnyH_ready (rs := [7, 8, 9]) (by kernel_rfl) (by simp) ?_
        refine AllReadyH.cons rfl (fun K hK => ?_) ?_
        · rw [if_pos (by rfl)]
          refine wp_call_ret 16 _ _ rfl _ (by rfl) (by kernel_rfl) _ (K4.out _) (fun Y2 hB => ?_)
          have h2 := h1.trans (hB.mono h1.size)
          refine hK.out _ _ h2 (fun _ => ?_)
          clear hK K hB
          show wpAnyH _ _ _ _ _ _ _ (Act.put _ (some 66) _) _
          try simp only [Act.put, List.setIfInBounds_toArray, List.set_cons_zero, List.set_cons_succ]
          refine wpAnyH_ready (rs := [8, 9]) (by kernel_rfl) (by simp) ?_
          refine AllReadyH.cons rfl (fun K hK => ?_) ?_
          · rw [if_pos (by rfl)]
            refine wp_of_run (w' := Y2.alloc (.cells #[.int .u8 0, .int .u8 0] 23)) (.pointer (some ⟨Y2.heap.size, 0, none⟩)) (by kernel_rfl) ?_
            have h3 := h2.alloc h2.size (.cells #[.int .u8 0, .int .u8 0] 23)
            have r18_Y3 : CRow _ Y2.heap.size 23 ⟨0, 0⟩ := alloc_at Y2 (.cells #[.int .u8 0, .int .u8 0] 23)
            have b18 := h2.size
            refine hK.out _ _ h3 (fun _ => ?_)
            clear hK K
            generalize Y2.alloc (.cells #[.int .u8 0, .int .u8 0] 23) = Y3 at *
            show wpAnyH _ _ _ _ _ _ _ (Act.put _ (some 18) _) _
            try simp only [Act.put, List.setIfInBounds_toArray, List.set_cons_zero, List.set_cons_succ]
            refine only_ 9 rfl (by kernel_rfl) (by rfl) (fun K hK => ?_)
            refine wp_of_run (w' := Y3.alloc (.cells #[.int .u8 0, .int .u8 0] 43)) (.pointer (some ⟨Y3.heap.size, 0, none⟩)) (by kernel_rfl) ?_
            have h4 := h3.alloc h3.size (.cells #[.int .u8 0, .int .u8 0] 43)
            have r19_Y4 : CRow _ Y3.heap.size 43 ⟨0, 0⟩ := alloc_at Y3 (.cells #[.int .u8 0, .int .u8 0] 43)
            have b19 := h3.size
            have r18_Y4 := CRow.below r18_Y3 ((Below.refl _ _).alloc (Nat.le_refl _) (.cells #[.int .u8 0, .int .u8 0] 43)) r18_Y3.lt
            have ne := Nat.ne_of_lt r18_Y3.lt
            refine hK.out _ _ h4 (fun _ => ?_)
            clear hK K
            generalize Y3.alloc (.cells #[.int .u8 0, .int .u8 0] 43) = Y4 at *
            show wpAnyH _ _ _ _ _ _ _ (Act.put _ (some 19) _) _
            try simp only [Act.put, List.setIfInBounds_toArray, List.set_cons_zero, List.set_cons_succ]
            refine only_ 10 rfl (by kernel_rfl) (by rfl) (fun K hK => ?_)
            refine wp_store_c2 23 _ _ rfl (Y2.heap.size) rfl rfl (by kernel_rfl) 23 r18_Y4 ?_
            intro Y5 HN HO HB
            have h5 := h4.trans (HB.out.mono b18)
            have r18_Y5 := HN.out
            have r19_Y5 := CRow.other r19_Y4 HO.out ne.symm
            refine hK.out _ _ h5 (fun _ => ?_)
            clear hK K HN HO HB
            try simp only [Act.put]
            refine only_ 11 rfl (by kernel_rfl) (by rfl) (fun K hK => ?_)
            refine wp_store_c2 43 _ _ rfl (Y3.heap.size) rfl rfl (by kernel_rfl) 43 r19_Y5 ?_
            intro Y6 HN HO HB
            have h6 := h5.trans (HB.out.mono b19)
            have r19_Y6 := HN.out
            have r18_Y6 := CRow.other r18_Y5 HO.out ne
            refine hK.out _ _ h6 (fun _ => ?_)
            clear hK K HN HO HB
            try simp only [Act.put]
            refine wpAnyH_done (by kernel_rfl) ?_ _
            refine NoPanic.normal ?_
            go_wp2
            go_meet
            case rel => exact ⟨_, _, _, rfl, rfl, rfl, r18_Y6, r19_Y6, h6⟩
          refine AllReadyH.cons rfl (fun K hK => ?_) ?_
          · rw [if_pos (by rfl)]
            refine wp_of_run (w' := Y2.alloc (.cells #[.int .u8 0, .int .u8 0] 43)) (.pointer (some ⟨Y2.heap.size, 0, none⟩)) (by kernel_rfl) ?_
            have h3 := h2.alloc h2.size (.cells #[.int .u8 0, .int .u8 0] 43)
            have r19_Y3 : CRow _ Y2.heap.size 43 ⟨0, 0⟩ := alloc_at Y2 (.cells #[.int .u8 0, .int .u8 0] 43)
            have b19 := h2.size
            refine hK.out _ _ h3 (fun _ => ?_)
            clear hK K
            generalize Y2.alloc (.cells #[.int .u8 0, .int .u8 0] 43) = Y3 at *
            show wpAnyH _ _ _ _ _ _ _ (Act.put _ (some 19) _) _
            try simp only [Act.put, List.setIfInBounds_toArray, List.set_cons_zero, List.set_cons_succ]
            refine only_ 8 rfl (by kernel_rfl) (by rfl) (fun K hK => ?_)
            refine wp_of_run (w' := Y3.alloc (.cells #[.int .u8 0, .int .u8 0] 23)) (.pointer (some ⟨Y3.heap.size, 0, none⟩)) (by kernel_rfl) ?_
            have h4 := h3.alloc h3.size (.cells #[.int .u8 0, .int .u8 0] 23)
            have r18_Y4 : CRow _ Y3.heap.size 23 ⟨0, 0⟩ := alloc_at Y3 (.cells #[.int .u8 0, .int .u8 0] 23)
            have b18 := h3.size
            have r19_Y4 := CRow.below r19_Y3 ((Below.refl _ _).alloc (Nat.le_refl _) (.cells #[.int .u8 0, .int .u8 0] 23)) r19_Y3.lt
            have ne := Nat.ne_of_lt r19_Y3.lt
            refine hK.out _ _ h4 (fun _ => ?_)
            clear hK K
            generalize Y3.alloc (.cells #[.int .u8 0, .int .u8 0] 23) = Y4 at *
            show wpAnyH _ _ _ _ _ _ _ (Act.put _ (some 18) _) _
            try simp only [Act.put, List.setIfInBounds_toArray, List.set_cons_zero, List.set_cons_succ]
            refine only_ 10 rfl (by kernel_rfl) (by rfl) (fun K hK => ?_)
            refine wp_store_c2 23 _ _ rfl (Y3.heap.size) rfl rfl (by kernel_rfl) 23 r18_Y4 ?_
            intro Y5 HN HO HB
            have h5 := h4.trans (HB.out.mono b18)
            have r18_Y5 := HN.out
            have r19_Y5 := CRow.other r19_Y4 HO.out ne
            refine hK.out _ _ h5 (fun _ => ?_)
            clear hK K HN HO HB
            try simp only [Act.put]
            refine only_ 11 rfl (by kernel_rfl) (by rfl) (fun K hK => ?_)
            refine wp_store_c2 43 _ _ rfl (Y2.heap.size) rfl rfl (by kernel_rfl) 43 r19_Y5 ?_
            intro Y6 HN HO HB
            have h6 := h5.trans (HB.out.mono b19)
            have r19_Y6 := HN.out
            have r18_Y6 := CRow.other r18_Y5 HO.out ne.symm
            refine hK.out _ _ h6 (fun _ => ?_)
            clear hK K HN HO HB
            try simp only [Act.put]
            refine wpAnyH_done (by kernel_rfl) ?_ _
            refine NoPanic.normal ?_
            go_wp2
            go_meet
            case rel => exact ⟨_, _, _, rfl, rfl, rfl, r18_Y6, r19_Y6, h6⟩
          exact AllReadyH.nil
        refine AllReadyH.cons rfl (fun K hK => ?_) ?_
        · rw [if_pos (by rfl)]
          refine wp_of_run (w' := Y1.alloc (.cells #[.int .u8 0, .int .u8 0] 23)) (.pointer (some ⟨Y1.heap.size, 0, none⟩)) (by kernel_rfl) ?_
          have h2 := h1.alloc h1.size (.cells #[.int .u8 0, .int .u8 0] 23)
          have r18_Y2 : CRow _ Y1.heap.size 23 ⟨0, 0⟩ := alloc_at Y1 (.cells #[.int .u8 0, .int .u8 0] 23)
          have b18 := h1.size
          refine hK.out _ _ h2 (fun _ => ?_)
          clear hK K
          generalize Y1.alloc (.cells #[.int .u8 0, .int .u8 0] 23) = Y2 at *
          show wpAnyH _ _ _ _ _ _ _ (Act.put _ (some 18) _) _
          try simp only [Act.put, List.setIfInBounds_toArray, List.set_cons_zero, List.set_cons_succ]
          refine wpAnyH_ready (rs := [7, 9]) (by kernel_rfl) (by simp) ?_
          refine AllReadyH.cons rfl (fun K hK => ?_) ?_
          · rw [if_pos (by rfl)]
            refine wp_call_ret 16 _ _ rfl _ (by rfl) (by kernel_rfl) _ (K4.out _) (fun Y3 hB => ?_)
            have h3 := h2.trans (hB.mono h2.size)
            have r18_Y3 := CRow.below r18_Y2 hB r18_Y2.lt
            refine hK.out _ _ h3 (fun _ => ?_)
            clear hK K hB
            show wpAnyH _ _ _ _ _ _ _ (Act.put _ (some 66) _) _
            try simp only [Act.put, List.setIfInBounds_toArray, List.set_cons_zero, List.set_cons_succ]
            refine only_ 9 rfl (by kernel_rfl) (by rfl) (fun K hK => ?_)
            refine wp_of_run (w' := Y3.alloc (.cells #[.int .u8 0, .int .u8 0] 43)) (.pointer (some ⟨Y3.heap.size, 0, none⟩)) (by kernel_rfl) ?_
            have h4 := h3.alloc h3.size (.cells #[.int .u8 0, .int .u8 0] 43)
            have r19_Y4 : CRow _ Y3.heap.size 43 ⟨0, 0⟩ := alloc_at Y3 (.cells #[.int .u8 0, .int .u8 0] 43)
            have b19 := h3.size
            have r18_Y4 := CRow.below r18_Y3 ((Below.refl _ _).alloc (Nat.le_refl _) (.cells #[.int .u8 0, .int .u8 0] 43)) r18_Y3.lt
            have ne := Nat.ne_of_lt r18_Y3.lt
            refine hK.out _ _ h4 (fun _ => ?_)
            clear hK K
            generalize Y3.alloc (.cells #[.int .u8 0, .int .u8 0] 43) = Y4 at *
            show wpAnyH _ _ _ _ _ _ _ (Act.put _ (some 19) _) _
            try simp only [Act.put, List.setIfInBounds_toArray, List.set_cons_zero, List.set_cons_succ]
            refine only_ 10 rfl (by kernel_rfl) (by rfl) (fun K hK => ?_)
            refine wp_store_c2 23 _ _ rfl (Y1.heap.size) rfl rfl (by kernel_rfl) 23 r18_Y4 ?_
            intro Y5 HN HO HB
            have h5 := h4.trans (HB.out.mono b18)
            have r18_Y5 := HN.out
            have r19_Y5 := CRow.other r19_Y4 HO.out ne.symm
            refine hK.out _ _ h5 (fun _ => ?_)
            clear hK K HN HO HB
            try simp only [Act.put]
            refine only_ 11 rfl (by kernel_rfl) (by rfl) (fun K hK => ?_)
            refine wp_store_c2 43 _ _ rfl (Y3.heap.size) rfl rfl (by kernel_rfl) 43 r19_Y5 ?_
            intro Y6 HN HO HB
            have h6 := h5.trans (HB.out.mono b19)
            have r19_Y6 := HN.out
            have r18_Y6 := CRow.other r18_Y5 HO.out ne
            refine hK.out _ _ h6 (fun _ => ?_)
            clear hK K HN HO HB
            try simp only [Act.put]
            refine wpAnyH_done (by kernel_rfl) ?_ _
            refine NoPanic.normal ?_
            go_wp2
            go_meet
            case rel => exact ⟨_, _, _, rfl, rfl, rfl, r18_Y6, r19_Y6, h6⟩
          refine AllReadyH.cons rfl (fun K hK => ?_) ?_
          · rw [if_pos (by rfl)]
            refine wp_of_run (w' := Y2.alloc (.cells #[.int .u8 0, .int .u8 0] 43)) (.pointer (some ⟨Y2.heap.size, 0, none⟩)) (by kernel_rfl) ?_
            have h3 := h2.alloc h2.size (.cells #[.int .u8 0, .int .u8 0] 43)
            have r19_Y3 : CRow _ Y2.heap.size 43 ⟨0, 0⟩ := alloc_at Y2 (.cells #[.int .u8 0, .int .u8 0] 43)
            have b19 := h2.size
            have r18_Y3 := CRow.below r18_Y2 ((Below.refl _ _).alloc (Nat.le_refl _) (.cells #[.int .u8 0, .int .u8 0] 43)) r18_Y2.lt
            have ne := Nat.ne_of_lt r18_Y2.lt
            refine hK.out _ _ h3 (fun _ => ?_)
            clear hK K
            generalize Y2.alloc (.cells #[.int .u8 0, .int .u8 0] 43) = Y3 at *
            show wpAnyH _ _ _ _ _ _ _ (Act.put _ (some 19) _) _
            try simp only [Act.put, List.setIfInBounds_toArray, List.set_cons_zero, List.set_cons_succ]
            refine only_ 7 rfl (by kernel_rfl) (by rfl) (fun K hK => ?_)
            refine wp_call_ret 16 _ _ rfl _ (by rfl) (by kernel_rfl) _ (K4.out _) (fun Y4 hB => ?_)
            have h4 := h3.trans (hB.mono h3.size)
            have r18_Y4 := CRow.below r18_Y3 hB r18_Y3.lt
            have r19_Y4 := CRow.below r19_Y3 hB r19_Y3.lt
            refine hK.out _ _ h4 (fun _ => ?_)
            clear hK K hB
            show wpAnyH _ _ _ _ _ _ _ (Act.put _ (some 66) _) _
            try simp only [Act.put, List.setIfInBounds_toArray, List.set_cons_zero, List.set_cons_succ]
            refine only_ 10 rfl (by kernel_rfl) (by rfl) (fun K hK => ?_)
            refine wp_store_c2 23 _ _ rfl (Y1.heap.size) rfl rfl (by kernel_rfl) 23 r18_Y4 ?_
            intro Y5 HN HO HB
            have h5 := h4.trans (HB.out.mono b18)
            have r18_Y5 := HN.out
            have r19_Y5 := CRow.other r19_Y4 HO.out ne.symm
            refine hK.out _ _ h5 (fun _ => ?_)
            clear hK K HN HO HB
            try simp only [Act.put]
            refine only_ 11 rfl (by kernel_rfl) (by rfl) (fun K hK => ?_)
            refine wp_store_c2 43 _ _ rfl (Y2.heap.size) rfl rfl (by kernel_rfl) 43 r19_Y5 ?_
            intro Y6 HN HO HB
            have h6 := h5.trans (HB.out.mono b19)
            have r19_Y6 := HN.out
            have r18_Y6 := CRow.other r18_Y5 HO.out ne
            refine hK.out _ _ h6 (fun _ => ?_)
            clear hK K HN HO HB
            try simp only [Act.put]
            refine wpAnyH_done (by kernel_rfl) ?_ _
            refine NoPanic.normal ?_
            go_wp2
            go_meet
            case rel => exact ⟨_, _, _, rfl, rfl, rfl, r18_Y6, r19_Y6, h6⟩
          exact AllReadyH.nil
        refine AllReadyH.cons rfl (fun K hK => ?_) ?_
        · rw [if_pos (by rfl)]
          refine wp_of_run (w' := Y1.alloc (.cells #[.int .u8 0, .int .u8 0] 43)) (.pointer (some ⟨Y1.heap.size, 0, none⟩)) (by kernel_rfl) ?_
          have h2 := h1.alloc h1.size (.cells #[.int .u8 0, .int .u8 0] 43)
          have r19_Y2 : CRow _ Y1.heap.size 43 ⟨0, 0⟩ := alloc_at Y1 (.cells #[.int .u8 0, .int .u8 0] 43)
          have b19 := h1.size
          refine hK.out _ _ h2 (fun _ => ?_)
          clear hK K
          generalize Y1.alloc (.cells #[.int .u8 0, .int .u8 0] 43) = Y2 at *
          show wpAnyH _ _ _ _ _ _ _ (Act.put _ (some 19) _) _
          try simp only [Act.put, List.setIfInBounds_toArray, List.set_cons_zero, List.set_cons_succ]
          refine wpAnyH_ready (rs := [7, 8]) (by kernel_rfl) (by simp) ?_
          refine AllReadyH.cons rfl (fun K hK => ?_) ?_
          · rw [if_pos (by rfl)]
            refine wp_call_ret 16 _ _ rfl _ (by rfl) (by kernel_rfl) _ (K4.out _) (fun Y3 hB => ?_)
            have h3 := h2.trans (hB.mono h2.size)
            have r19_Y3 := CRow.below r19_Y2 hB r19_Y2.lt
            refine hK.out _ _ h3 (fun _ => ?_)
            clear hK K hB
            show wpAnyH _ _ _ _ _ _ _ (Act.put _ (some 66) _) _
            try simp only [Act.put, List.setIfInBounds_toArray, List.set_cons_zero, List.set_cons_succ]
            refine only_ 8 rfl (by kernel_rfl) (by rfl) (fun K hK => ?_)
            refine wp_of_run (w' := Y3.alloc (.cells #[.int .u8 0, .int .u8 0] 23)) (.pointer (some ⟨Y3.heap.size, 0, none⟩)) (by kernel_rfl) ?_
            have h4 := h3.alloc h3.size (.cells #[.int .u8 0, .int .u8 0] 23)
            have r18_Y4 : CRow _ Y3.heap.size 23 ⟨0, 0⟩ := alloc_at Y3 (.cells #[.int .u8 0, .int .u8 0] 23)
            have b18 := h3.size
            have r19_Y4 := CRow.below r19_Y3 ((Below.refl _ _).alloc (Nat.le_refl _) (.cells #[.int .u8 0, .int .u8 0] 23)) r19_Y3.lt
            have ne := Nat.ne_of_lt r19_Y3.lt
            refine hK.out _ _ h4 (fun _ => ?_)
            clear hK K
            generalize Y3.alloc (.cells #[.int .u8 0, .int .u8 0] 23) = Y4 at *
            show wpAnyH _ _ _ _ _ _ _ (Act.put _ (some 18) _) _
            try simp only [Act.put, List.setIfInBounds_toArray, List.set_cons_zero, List.set_cons_succ]
            refine only_ 10 rfl (by kernel_rfl) (by rfl) (fun K hK => ?_)
            refine wp_store_c2 23 _ _ rfl (Y3.heap.size) rfl rfl (by kernel_rfl) 23 r18_Y4 ?_
            intro Y5 HN HO HB
            have h5 := h4.trans (HB.out.mono b18)
            have r18_Y5 := HN.out
            have r19_Y5 := CRow.other r19_Y4 HO.out ne
            refine hK.out _ _ h5 (fun _ => ?_)
            clear hK K HN HO HB
            try simp only [Act.put]
            refine only_ 11 rfl (by kernel_rfl) (by rfl) (fun K hK => ?_)
            refine wp_store_c2 43 _ _ rfl (Y1.heap.size) rfl rfl (by kernel_rfl) 43 r19_Y5 ?_
            intro Y6 HN HO HB
            have h6 := h5.trans (HB.out.mono b19)
            have r19_Y6 := HN.out
            have r18_Y6 := CRow.other r18_Y5 HO.out ne.symm
            refine hK.out _ _ h6 (fun _ => ?_)
            clear hK K HN HO HB
            try simp only [Act.put]
            refine wpAnyH_done (by kernel_rfl) ?_ _
            refine NoPanic.normal ?_
            go_wp2
            go_meet
            case rel => exact ⟨_, _, _, rfl, rfl, rfl, r18_Y6, r19_Y6, h6⟩
          refine AllReadyH.cons rfl (fun K hK => ?_) ?_
          · rw [if_pos (by rfl)]
            refine wp_of_run (w' := Y2.alloc (.cells #[.int .u8 0, .int .u8 0] 23)) (.pointer (some ⟨Y2.heap.size, 0, none⟩)) (by kernel_rfl) ?_
            have h3 := h2.alloc h2.size (.cells #[.int .u8 0, .int .u8 0] 23)
            have r18_Y3 : CRow _ Y2.heap.size 23 ⟨0, 0⟩ := alloc_at Y2 (.cells #[.int .u8 0, .int .u8 0] 23)
            have b18 := h2.size
            have r19_Y3 := CRow.below r19_Y2 ((Below.refl _ _).alloc (Nat.le_refl _) (.cells #[.int .u8 0, .int .u8 0] 23)) r19_Y2.lt
            have ne := Nat.ne_of_lt r19_Y2.lt
            refine hK.out _ _ h3 (fun _ => ?_)
            clear hK K
            generalize Y2.alloc (.cells #[.int .u8 0, .int .u8 0] 23) = Y3 at *
            show wpAnyH _ _ _ _ _ _ _ (Act.put _ (some 18) _) _
            try simp only [Act.put, List.setIfInBounds_toArray, List.set_cons_zero, List.set_cons_succ]
            refine only_ 7 rfl (by kernel_rfl) (by rfl) (fun K hK => ?_)
            refine wp_call_ret 16 _ _ rfl _ (by rfl) (by kernel_rfl) _ (K4.out _) (fun Y4 hB => ?_)
            have h4 := h3.trans (hB.mono h3.size)
            have r19_Y4 := CRow.below r19_Y3 hB r19_Y3.lt
            have r18_Y4 := CRow.below r18_Y3 hB r18_Y3.lt
            refine hK.out _ _ h4 (fun _ => ?_)
            clear hK K hB
            show wpAnyH _ _ _ _ _ _ _ (Act.put _ (some 66) _) _
            try simp only [Act.put, List.setIfInBounds_toArray, List.set_cons_zero, List.set_cons_succ]
            refine only_ 10 rfl (by kernel_rfl) (by rfl) (fun K hK => ?_)
            refine wp_store_c2 23 _ _ rfl (Y2.heap.size) rfl rfl (by kernel_rfl) 23 r18_Y4 ?_
            intro Y5 HN HO HB
            have h5 := h4.trans (HB.out.mono b18)
            have r18_Y5 := HN.out
            have r19_Y5 := CRow.other r19_Y4 HO.out ne
            refine hK.out _ _ h5 (fun _ => ?_)
            clear hK K HN HO HB
            try simp only [Act.put]
            refine only_ 11 rfl (by kernel_rfl) (by rfl) (fun K hK => ?_)
            refine wp_store_c2 43 _ _ rfl (Y1.heap.size) rfl rfl (by kernel_rfl) 43 r19_Y5 ?_
            intro Y6 HN HO HB
            have h6 := h5.trans (HB.out.mono b19)
            have r19_Y6 := HN.out
            have r18_Y6 := CRow.other r18_Y5 HO.out ne.symm
            refine hK.out _ _ h6 (fun _ => ?_)
            clear hK K HN HO HB
            try simp only [Act.put]
            refine wpAnyH_done (by kernel_rfl) ?_ _
            refine NoPanic.normal ?_
            go_wp2
            go_meet
            case rel => exact ⟨_, _, _, rfl, rfl, rfl, r18_Y6, r19_Y6, h6⟩
          exact AllReadyH.nil
        exact AllReadyH.nil
      refine AllReadyH.cons rfl (fun K hK => ?_) ?_
      · rw [if_pos (by rfl)]
        refine wp_of_run (w' := Y0.alloc (.cells #[.int .u8 0, .int .u8 0] 23)) (.pointer (some ⟨Y0.heap.size, 0, none⟩)) (by kernel_rfl) ?_
        have h1 := hHeld.alloc hHeld.size (.cells #[.int .u8 0, .int .u8 0] 23)
        have r18_Y1 : CRow _ Y0.heap.size 23 ⟨0, 0⟩ := alloc_at Y0 (.cells #[.int .u8 0, .int .u8 0] 23)
        have b18 := hHeld.size
        refine hK.out _ _ h1 (fun _ => ?_)
        clear hK K
        generalize Y0.alloc (.cells #[.int .u8 0, .int .u8 0] 23) = Y1 at *
        show wpAnyH _ _ _ _ _ _ _ (Act.put _ (some 18) _) _
        try simp only [Act.put, List.setIfInBounds_toArray, List.set_cons_zero, List.set_cons_succ]
        refine wpAnyH_ready (rs := [3, 9]) (by kernel_rfl) (by simp) ?_
        refine AllReadyH.cons rfl (fun K hK => ?_) ?_
        · rw [if_pos (by rfl)]
          refine wp_call_ret 8 _ _ rfl _ (by rfl) (by kernel_rfl) _ (K3.out _) (fun Y2 hB => ?_)
          have h2 := h1.trans (hB.mono h1.size)
          have r18_Y2 := CRow.below r18_Y1 hB r18_Y1.lt
          refine hK.out _ _ h2 (fun _ => ?_)
          clear hK K hB
          show wpAnyH _ _ _ _ _ _ _ (Act.put _ (some 62) _) _
          try simp only [Act.put, List.setIfInBounds_toArray, List.set_cons_zero, List.set_cons_succ]
          refine wpAnyH_ready (rs := [7, 9]) (by kernel_rfl) (by simp) ?_
          refine AllReadyH.cons rfl (fun K hK => ?_) ?_
          · rw [if_pos (by rfl)]
            refine wp_call_ret 16 _ _ rfl _ (by rfl) (by kernel_rfl) _ (K4.out _) (fun Y3 hB => ?_)
            have h3 := h2.trans (hB.mono h2.size)
            have r18_Y3 := CRow.below r18_Y2 hB r18_Y2.lt
            refine hK.out _ _ h3 (fun _ => ?_)
            clear hK K hB
            show wpAnyH _ _ _ _ _ _ _ (Act.put _ (some 66) _) _
            try simp only [Act.put, List.setIfInBounds_toArray, List.set_cons_zero, List.set_cons_succ]
            refine only_ 9 rfl (by kernel_rfl) (by rfl) (fun K hK => ?_)
            refine wp_of_run (w' := Y3.alloc (.cells #[.int .u8 0, .int .u8 0] 43)) (.pointer (some ⟨Y3.heap.size, 0, none⟩)) (by kernel_rfl) ?_
            have h4 := h3.alloc h3.size (.cells #[.int .u8 0, .int .u8 0] 43)
            have r19_Y4 : CRow _ Y3.heap.size 43 ⟨0, 0⟩ := alloc_at Y3 (.cells #[.int .u8 0, .int .u8 0] 43)
            have b19 := h3.size
            have r18_Y4 := CRow.below r18_Y3 ((Below.refl _ _).alloc (Nat.le_refl _) (.cells #[.int .u8 0, .int .u8 0] 43)) r18_Y3.lt
            have ne := Nat.ne_of_lt r18_Y3.lt
            refine hK.out _ _ h4 (fun _ => ?_)
            clear hK K
            generalize Y3.alloc (.cells #[.int .u8 0, .int .u8 0] 43) = Y4 at *
            show wpAnyH _ _ _ _ _ _ _ (Act.put _ (some 19) _) _
            try simp only [Act.put, List.setIfInBounds_toArray, List.set_cons_zero, List.set_cons_succ]
            refine only_ 10 rfl (by kernel_rfl) (by rfl) (fun K hK => ?_)
            refine wp_store_c2 23 _ _ rfl (Y0.heap.size) rfl rfl (by kernel_rfl) 23 r18_Y4 ?_
            intro Y5 HN HO HB
            have h5 := h4.trans (HB.out.mono b18)
            have r18_Y5 := HN.out
            have r19_Y5 := CRow.other r19_Y4 HO.out ne.symm
            refine hK.out _ _ h5 (fun _ => ?_)
            clear hK K HN HO HB
            try simp only [Act.put]
            refine only_ 11 rfl (by kernel_rfl) (by rfl) (fun K hK => ?_)
            refine wp_store_c2 43 _ _ rfl (Y3.heap.size) rfl rfl (by kernel_rfl) 43 r19_Y5 ?_
            intro Y6 HN HO HB
            have h6 := h5.trans (HB.out.mono b19)
            have r19_Y6 := HN.out
            have r18_Y6 := CRow.other r18_Y5 HO.out ne
            refine hK.out _ _ h6 (fun _ => ?_)
            clear hK K HN HO HB
            try simp only [Act.put]
            refine wpAnyH_done (by kernel_rfl) ?_ _
            refine NoPanic.normal ?_
            go_wp2
            go_meet
            case rel => exact ⟨_, _, _, rfl, rfl, rfl, r18_Y6, r19_Y6, h6⟩
          refine AllReadyH.cons rfl (fun K hK => ?_) ?_
          · rw [if_pos (by rfl)]
            refine wp_of_run (w' := Y2.alloc (.cells #[.int .u8 0, .int .u8 0] 43)) (.pointer (some ⟨Y2.heap.size, 0, none⟩)) (by kernel_rfl) ?_
            have h3 := h2.alloc h2.size (.cells #[.int .u8 0, .int .u8 0] 43)
            have r19_Y3 : CRow _ Y2.heap.size 43 ⟨0, 0⟩ := alloc_at Y2 (.cells #[.int .u8 0, .int .u8 0] 43)
            have b19 := h2.size
            have r18_Y3 := CRow.below r18_Y2 ((Below.refl _ _).alloc (Nat.le_refl _) (.cells #[.int .u8 0, .int .u8 0] 43)) r18_Y2.lt
            have ne := Nat.ne_of_lt r18_Y2.lt
            refine hK.out _ _ h3 (fun _ => ?_)
            clear hK K
            generalize Y2.alloc (.cells #[.int .u8 0, .int .u8 0] 43) = Y3 at *
            show wpAnyH _ _ _ _ _ _ _ (Act.put _ (some 19) _) _
            try simp only [Act.put, List.setIfInBounds_toArray, List.set_cons_zero, List.set_cons_succ]
            refine only_ 7 rfl (by kernel_rfl) (by rfl) (fun K hK => ?_)
            refine wp_call_ret 16 _ _ rfl _ (by rfl) (by kernel_rfl) _ (K4.out _) (fun Y4 hB => ?_)
            have h4 := h3.trans (hB.mono h3.size)
            have r18_Y4 := CRow.below r18_Y3 hB r18_Y3.lt
            have r19_Y4 := CRow.below r19_Y3 hB r19_Y3.lt
            refine hK.out _ _ h4 (fun _ => ?_)
            clear hK K hB
            show wpAnyH _ _ _ _ _ _ _ (Act.put _ (some 66) _) _
            try simp only [Act.put, List.setIfInBounds_toArray, List.set_cons_zero, List.set_cons_succ]
            refine only_ 10 rfl (by kernel_rfl) (by rfl) (fun K hK => ?_)
            refine wp_store_c2 23 _ _ rfl (Y0.heap.size) rfl rfl (by kernel_rfl) 23 r18_Y4 ?_
            intro Y5 HN HO HB
            have h5 := h4.trans (HB.out.mono b18)
            have r18_Y5 := HN.out
            have r19_Y5 := CRow.other r19_Y4 HO.out ne.symm
            refine hK.out _ _ h5 (fun _ => ?_)
            clear hK K HN HO HB
            try simp only [Act.put]
            refine only_ 11 rfl (by kernel_rfl) (by rfl) (fun K hK => ?_)
            refine wp_store_c2 43 _ _ rfl (Y2.heap.size) rfl rfl (by kernel_rfl) 43 r19_Y5 ?_
            intro Y6 HN HO HB
            have h6 := h5.trans (HB.out.mono b19)
            have r19_Y6 := HN.out
            have r18_Y6 := CRow.other r18_Y5 HO.out ne
            refine hK.out _ _ h6 (fun _ => ?_)
            clear hK K HN HO HB
            try simp only [Act.put]
            refine wpAnyH_done (by kernel_rfl) ?_ _
            refine NoPanic.normal ?_
            go_wp2
            go_meet
            case rel => exact ⟨_, _, _, rfl, rfl, rfl, r18_Y6, r19_Y6, h6⟩
          exact AllReadyH.nil
        refine AllReadyH.cons rfl (fun K hK => ?_) ?_
        · rw [if_pos (by rfl)]
          refine wp_of_run (w' := Y1.alloc (.cells #[.int .u8 0, .int .u8 0] 43)) (.pointer (some ⟨Y1.heap.size, 0, none⟩)) (by kernel_rfl) ?_
          have h2 := h1.alloc h1.size (.cells #[.int .u8 0, .int .u8 0] 43)
          have r19_Y2 : CRow _ Y1.heap.size 43 ⟨0, 0⟩ := alloc_at Y1 (.cells #[.int .u8 0, .int .u8 0] 43)
          have b19 := h1.size
          have r18_Y2 := CRow.below r18_Y1 ((Below.refl _ _).alloc (Nat.le_refl _) (.cells #[.int .u8 0, .int .u8 0] 43)) r18_Y1.lt
          have ne := Nat.ne_of_lt r18_Y1.lt
          refine hK.out _ _ h2 (fun _ => ?_)
          clear hK K
          generalize Y1.alloc (.cells #[.int .u8 0, .int .u8 0] 43) = Y2 at *
          show wpAnyH _ _ _ _ _ _ _ (Act.put _ (some 19) _) _
          try simp only [Act.put, List.setIfInBounds_toArray, List.set_cons_zero, List.set_cons_succ]
          refine only_ 3 rfl (by kernel_rfl) (by rfl) (fun K hK => ?_)
          refine wp_call_ret 8 _ _ rfl _ (by rfl) (by kernel_rfl) _ (K3.out _) (fun Y3 hB => ?_)
          have h3 := h2.trans (hB.mono h2.size)
          have r18_Y3 := CRow.below r18_Y2 hB r18_Y2.lt
          have r19_Y3 := CRow.below r19_Y2 hB r19_Y2.lt
          refine hK.out _ _ h3 (fun _ => ?_)
          clear hK K hB
          show wpAnyH _ _ _ _ _ _ _ (Act.put _ (some 62) _) _
          try simp only [Act.put, List.setIfInBounds_toArray, List.set_cons_zero, List.set_cons_succ]
          refine only_ 7 rfl (by kernel_rfl) (by rfl) (fun K hK => ?_)
          refine wp_call_ret 16 _ _ rfl _ (by rfl) (by kernel_rfl) _ (K4.out _) (fun Y4 hB => ?_)
          have h4 := h3.trans (hB.mono h3.size)
          have r18_Y4 := CRow.below r18_Y3 hB r18_Y3.lt
          have r19_Y4 := CRow.below r19_Y3 hB r19_Y3.lt
          refine hK.out _ _ h4 (fun _ => ?_)
          clear hK K hB
          show wpAnyH _ _ _ _ _ _ _ (Act.put _ (some 66) _) _
          try simp only [Act.put, List.setIfInBounds_toArray, List.set_cons_zero, List.set_cons_succ]
          refine only_ 10 rfl (by kernel_rfl) (by rfl) (fun K hK => ?_)
          refine wp_store_c2 23 _ _ rfl (Y0.heap.size) rfl rfl (by kernel_rfl) 23 r18_Y4 ?_
          intro Y5 HN HO HB
          have h5 := h4.trans (HB.out.mono b18)
          have r18_Y5 := HN.out
          have r19_Y5 := CRow.other r19_Y4 HO.out ne.symm
          refine hK.out _ _ h5 (fun _ => ?_)
          clear hK K HN HO HB
          try simp only [Act.put]
          refine only_ 11 rfl (by kernel_rfl) (by rfl) (fun K hK => ?_)
          refine wp_store_c2 43 _ _ rfl (Y1.heap.size) rfl rfl (by kernel_rfl) 43 r19_Y5 ?_
          intro Y6 HN HO HB
          have h6 := h5.trans (HB.out.mono b19)
          have r19_Y6 := HN.out
          have r18_Y6 := CRow.other r18_Y5 HO.out ne
          refine hK.out _ _ h6 (fun _ => ?_)
          clear hK K HN HO HB
          try simp only [Act.put]
          refine wpAnyH_done (by kernel_rfl) ?_ _
          refine NoPanic.normal ?_
          go_wp2
          go_meet
          case rel => exact ⟨_, _, _, rfl, rfl, rfl, r18_Y6, r19_Y6, h6⟩
        exact AllReadyH.nil
      refine AllReadyH.cons rfl (fun K hK => ?_) ?_
      · rw [if_pos (by rfl)]
        refine wp_of_run (w' := Y0.alloc (.cells #[.int .u8 0, .int .u8 0] 43)) (.pointer (some ⟨Y0.heap.size, 0, none⟩)) (by kernel_rfl) ?_
        have h1 := hHeld.alloc hHeld.size (.cells #[.int .u8 0, .int .u8 0] 43)
        have r19_Y1 : CRow _ Y0.heap.size 43 ⟨0, 0⟩ := alloc_at Y0 (.cells #[.int .u8 0, .int .u8 0] 43)
        have b19 := hHeld.size
        refine hK.out _ _ h1 (fun _ => ?_)
        clear hK K
        generalize Y0.alloc (.cells #[.int .u8 0, .int .u8 0] 43) = Y1 at *
        show wpAnyH _ _ _ _ _ _ _ (Act.put _ (some 19) _) _
        try simp only [Act.put, List.setIfInBounds_toArray, List.set_cons_zero, List.set_cons_succ]
        refine wpAnyH_ready (rs := [3, 8]) (by kernel_rfl) (by simp) ?_
        refine AllReadyH.cons rfl (fun K hK => ?_) ?_
        · rw [if_pos (by rfl)]
          refine wp_call_ret 8 _ _ rfl _ (by rfl) (by kernel_rfl) _ (K3.out _) (fun Y2 hB => ?_)
          have h2 := h1.trans (hB.mono h1.size)
          have r19_Y2 := CRow.below r19_Y1 hB r19_Y1.lt
          refine hK.out _ _ h2 (fun _ => ?_)
          clear hK K hB
          show wpAnyH _ _ _ _ _ _ _ (Act.put _ (some 62) _) _
          try simp only [Act.put, List.setIfInBounds_toArray, List.set_cons_zero, List.set_cons_succ]
          refine wpAnyH_ready (rs := [7, 8]) (by kernel_rfl) (by simp) ?_
          refine AllReadyH.cons rfl (fun K hK => ?_) ?_
          · rw [if_pos (by rfl)]
            refine wp_call_ret 16 _ _ rfl _ (by rfl) (by kernel_rfl) _ (K4.out _) (fun Y3 hB => ?_)
            have h3 := h2.trans (hB.mono h2.size)
            have r19_Y3 := CRow.below r19_Y2 hB r19_Y2.lt
            refine hK.out _ _ h3 (fun _ => ?_)
            clear hK K hB
            show wpAnyH _ _ _ _ _ _ _ (Act.put _ (some 66) _) _
            try simp only [Act.put, List.setIfInBounds_toArray, List.set_cons_zero, List.set_cons_succ]
            refine only_ 8 rfl (by kernel_rfl) (by rfl) (fun K hK => ?_)
            refine wp_of_run (w' := Y3.alloc (.cells #[.int .u8 0, .int .u8 0] 23)) (.pointer (some ⟨Y3.heap.size, 0, none⟩)) (by kernel_rfl) ?_
            have h4 := h3.alloc h3.size (.cells #[.int .u8 0, .int .u8 0] 23)
            have r18_Y4 : CRow _ Y3.heap.size 23 ⟨0, 0⟩ := alloc_at Y3 (.cells #[.int .u8 0, .int .u8 0] 23)
            have b18 := h3.size
            have r19_Y4 := CRow.below r19_Y3 ((Below.refl _ _).alloc (Nat.le_refl _) (.cells #[.int .u8 0, .int .u8 0] 23)) r19_Y3.lt
            have ne := Nat.ne_of_lt r19_Y3.lt
            refine hK.out _ _ h4 (fun _ => ?_)
            clear hK K
            generalize Y3.alloc (.cells #[.int .u8 0, .int .u8 0] 23) = Y4 at *
            show wpAnyH _ _ _ _ _ _ _ (Act.put _ (some 18) _) _
            try simp only [Act.put, List.setIfInBounds_toArray, List.set_cons_zero, List.set_cons_succ]
            refine only_ 10 rfl (by kernel_rfl) (by rfl) (fun K hK => ?_)
            refine wp_store_c2 23 _ _ rfl (Y3.heap.size) rfl rfl (by kernel_rfl) 23 r18_Y4 ?_
            intro Y5 HN HO HB
            have h5 := h4.trans (HB.out.mono b18)
            have r18_Y5 := HN.out
            have r19_Y5 := CRow.other r19_Y4 HO.out ne
            refine hK.out _ _ h5 (fun _ => ?_)
            clear hK K HN HO HB
            try simp only [Act.put]
            refine only_ 11 rfl (by kernel_rfl) (by rfl) (fun K hK => ?_)
            refine wp_store_c2 43 _ _ rfl (Y0.heap.size) rfl rfl (by kernel_rfl) 43 r19_Y5 ?_
            intro Y6 HN HO HB
            have h6 := h5.trans (HB.out.mono b19)
            have r19_Y6 := HN.out
            have r18_Y6 := CRow.other r18_Y5 HO.out ne.symm
            refine hK.out _ _ h6 (fun _ => ?_)
            clear hK K HN HO HB
            try simp only [Act.put]
            refine wpAnyH_done (by kernel_rfl) ?_ _
            refine NoPanic.normal ?_
            go_wp2
            go_meet
            case rel => exact ⟨_, _, _, rfl, rfl, rfl, r18_Y6, r19_Y6, h6⟩
          refine AllReadyH.cons rfl (fun K hK => ?_) ?_
          · rw [if_pos (by rfl)]
            refine wp_of_run (w' := Y2.alloc (.cells #[.int .u8 0, .int .u8 0] 23)) (.pointer (some ⟨Y2.heap.size, 0, none⟩)) (by kernel_rfl) ?_
            have h3 := h2.alloc h2.size (.cells #[.int .u8 0, .int .u8 0] 23)
            have r18_Y3 : CRow _ Y2.heap.size 23 ⟨0, 0⟩ := alloc_at Y2 (.cells #[.int .u8 0, .int .u8 0] 23)
            have b18 := h2.size
            have r19_Y3 := CRow.below r19_Y2 ((Below.refl _ _).alloc (Nat.le_refl _) (.cells #[.int .u8 0, .int .u8 0] 23)) r19_Y2.lt
            have ne := Nat.ne_of_lt r19_Y2.lt
            refine hK.out _ _ h3 (fun _ => ?_)
            clear hK K
            generalize Y2.alloc (.cells #[.int .u8 0, .int .u8 0] 23) = Y3 at *
            show wpAnyH _ _ _ _ _ _ _ (Act.put _ (some 18) _) _
            try simp only [Act.put, List.setIfInBounds_toArray, List.set_cons_zero, List.set_cons_succ]
            refine only_ 7 rfl (by kernel_rfl) (by rfl) (fun K hK => ?_)
            refine wp_call_ret 16 _ _ rfl _ (by rfl) (by kernel_rfl) _ (K4.out _) (fun Y4 hB => ?_)
            have h4 := h3.trans (hB.mono h3.size)
            have r19_Y4 := CRow.below r19_Y3 hB r19_Y3.lt
            have r18_Y4 := CRow.below r18_Y3 hB r18_Y3.lt
            refine hK.out _ _ h4 (fun _ => ?_)
            clear hK K hB
            show wpAnyH _ _ _ _ _ _ _ (Act.put _ (some 66) _) _
            try simp only [Act.put, List.setIfInBounds_toArray, List.set_cons_zero, List.set_cons_succ]
            refine only_ 10 rfl (by kernel_rfl) (by rfl) (fun K hK => ?_)
            refine wp_store_c2 23 _ _ rfl (Y2.heap.size) rfl rfl (by kernel_rfl) 23 r18_Y4 ?_
            intro Y5 HN HO HB
            have h5 := h4.trans (HB.out.mono b18)
            have r18_Y5 := HN.out
            have r19_Y5 := CRow.other r19_Y4 HO.out ne
            refine hK.out _ _ h5 (fun _ => ?_)
            clear hK K HN HO HB
            try simp only [Act.put]
            refine only_ 11 rfl (by kernel_rfl) (by rfl) (fun K hK => ?_)
            refine wp_store_c2 43 _ _ rfl (Y0.heap.size) rfl rfl (by kernel_rfl) 43 r19_Y5 ?_
            intro Y6 HN HO HB
            have h6 := h5.trans (HB.out.mono b19)
            have r19_Y6 := HN.out
            have r18_Y6 := CRow.other r18_Y5 HO.out ne.symm
            refine hK.out _ _ h6 (fun _ => ?_)
            clear hK K HN HO HB
            try simp only [Act.put]
            refine wpAnyH_done (by kernel_rfl) ?_ _
            refine NoPanic.normal ?_
            go_wp2
            go_meet
            case rel => exact ⟨_, _, _, rfl, rfl, rfl, r18_Y6, r19_Y6, h6⟩
          exact AllReadyH.nil
        refine AllReadyH.cons rfl (fun K hK => ?_) ?_
        · rw [if_pos (by rfl)]
          refine wp_of_run (w' := Y1.alloc (.cells #[.int .u8 0, .int .u8 0] 23)) (.pointer (some ⟨Y1.heap.size, 0, none⟩)) (by kernel_rfl) ?_
          have h2 := h1.alloc h1.size (.cells #[.int .u8 0, .int .u8 0] 23)
          have r18_Y2 : CRow _ Y1.heap.size 23 ⟨0, 0⟩ := alloc_at Y1 (.cells #[.int .u8 0, .int .u8 0] 23)
          have b18 := h1.size
          have r19_Y2 := CRow.below r19_Y1 ((Below.refl _ _).alloc (Nat.le_refl _) (.cells #[.int .u8 0, .int .u8 0] 23)) r19_Y1.lt
          have ne := Nat.ne_of_lt r19_Y1.lt
          refine hK.out _ _ h2 (fun _ => ?_)
          clear hK K
          generalize Y1.alloc (.cells #[.int .u8 0, .int .u8 0] 23) = Y2 at *
          show wpAnyH _ _ _ _ _ _ _ (Act.put _ (some 18) _) _
          try simp only [Act.put, List.setIfInBounds_toArray, List.set_cons_zero, List.set_cons_succ]
          refine only_ 3 rfl (by kernel_rfl) (by rfl) (fun K hK => ?_)
          refine wp_call_ret 8 _ _ rfl _ (by rfl) (by kernel_rfl) _ (K3.out _) (fun Y3 hB => ?_)
          have h3 := h2.trans (hB.mono h2.size)
          have r19_Y3 := CRow.below r19_Y2 hB r19_Y2.lt
          have r18_Y3 := CRow.below r18_Y2 hB r18_Y2.lt
          refine hK.out _ _ h3 (fun _ => ?_)
          clear hK K hB
          show wpAnyH _ _ _ _ _ _ _ (Act.put _ (some 62) _) _
          try simp only [Act.put, List.setIfInBounds_toArray, List.set_cons_zero, List.set_cons_succ]
          refine only_ 7 rfl (by kernel_rfl) (by rfl) (fun K hK => ?_)
          refine wp_call_ret 16 _ _ rfl _ (by rfl) (by kernel_rfl) _ (K4.out _) (fun Y4 hB => ?_)
          have h4 := h3.trans (hB.mono h3.size)
          have r19_Y4 := CRow.below r19_Y3 hB r19_Y3.lt
          have r18_Y4 := CRow.below r18_Y3 hB r18_Y3.lt
          refine hK.out _ _ h4 (fun _ => ?_)
          clear hK K hB
          show wpAnyH _ _ _ _ _ _ _ (Act.put _ (some 66) _) _
          try simp only [Act.put, List.setIfInBounds_toArray, List.set_cons_zero, List.set_cons_succ]
          refine only_ 10 rfl (by kernel_rfl) (by rfl) (fun K hK => ?_)
          refine wp_store_c2 23 _ _ rfl (Y1.heap.size) rfl rfl (by kernel_rfl) 23 r18_Y4 ?_
          intro Y5 HN HO HB
          have h5 := h4.trans (HB.out.mono b18)
          have r18_Y5 := HN.out
          have r19_Y5 := CRow.other r19_Y4 HO.out ne
          refine hK.out _ _ h5 (fun _ => ?_)
          clear hK K HN HO HB
          try simp only [Act.put]
          refine only_ 11 rfl (by kernel_rfl) (by rfl) (fun K hK => ?_)
          refine wp_store_c2 43 _ _ rfl (Y0.heap.size) rfl rfl (by kernel_rfl) 43 r19_Y5 ?_
          intro Y6 HN HO HB
          have h6 := h5.trans (HB.out.mono b19)
          have r19_Y6 := HN.out
          have r18_Y6 := CRow.other r18_Y5 HO.out ne.symm
          refine hK.out _ _ h6 (fun _ => ?_)
          clear hK K HN HO HB
          try simp only [Act.put]
          refine wpAnyH_done (by kernel_rfl) ?_ _
          refine NoPanic.normal ?_
          go_wp2
          go_meet
          case rel => exact ⟨_, _, _, rfl, rfl, rfl, r18_Y6, r19_Y6, h6⟩
        exact AllReadyH.nil
      exact AllReadyH.nil
    case rest =>
      obtain ⟨w5, b18, b19, rfl, rfl, rfl, q1, q2, q3⟩ := hcut
      have RC_w5 : Hid (CRow w5 gc 23 (c)) := Lib.hid (CRow.below RC_w4.out q3 RC_w4.out.lt)
      have RP_w5 : Hid (PRow w5 gp (ps)) := Lib.hid (PRow.below RP_w4.out q3 RP_w4.out.lt)
      have RA_w5 : Hid (VRow w5 ga 26 (asc lv cr mk)) := Lib.hid (VRow.below RA_w4.out q3 RA_w4.out.lt)
      have RR_w5 : Hid (CRow w5 gr 43 (c)) := Lib.hid (CRow.below RR_w4.out q3 RR_w4.out.lt)
      have RX_w5 : Hid (CRow w5 b16 23 (cw)) := Lib.hid (CRow.below RX_w4.out q3 RX_w4.out.lt)
      have RY_w5 : Hid (CRow w5 b17 43 (cw)) := Lib.hid (CRow.below RY_w4.out q3 RY_w4.out.lt)
      have RS_w5 : Hid (CRow w5 b18 23 (cq)) := Lib.hid q1
      have RT_w5 : Hid (CRow w5 b19 43 (cq)) := Lib.hid q2
      have BB_w5 : Hid (Below w.heap.size w w5) := Lib.hid (BB_w4.out.trans (q3.mono BB_w4.out.size))
      clear q1 q2 q3 RC_w4 RP_w4 RA_w4 RR_w4 RX_w4 RY_w4 BB_w4
      go_upto_region 6 with fail
      go_cut [20, 21] (fun xv yv wx => ∃ (Wc : World) (b1 b2 : Nat), Wc = wx ∧ xv = .pointer (some ⟨b1, 0, none⟩) ∧ yv = .pointer (some ⟨b2, 0, none⟩) ∧ CRow Wc b1 23 (ct) ∧ CRow Wc b2 43 (ct) ∧ Below w5.heap.size w5 Wc)
      case first =>
        refine wp_region_noPanic ?_
        refine wp_region_held_drew (S := fun X => Below w5.heap.size w5 X) (by kernel_rfl) ((Below.refl _ w5).drew) (fun hHeld => ?_)
        obtain ⟨Y0, hY0⟩ : ∃ Y, w5.drew = Y := ⟨_, rfl⟩
        rw [hY0] at hHeld ⊢
        clear hY0
        have g0 := hHeld
        refine' take_ 0 rfl (by kernel_rfl) (by kernel_rfl) (by kernel_rfl) (fun _ _ _ h => h) (by rfl) (fun wS hSw => run_load_c wS 23 _ gc rfl _ Try.underlying23 (by kernel_rfl) 23 (RC_w5.out.below hSw RC_w5.out.lt) _ _ _ _ _) g0 ?_
        try simp only [Act.put, List.setIfInBounds_toArray, List.set_cons_zero, List.set_cons_succ]
        refine' take_ 1 rfl (by kernel_rfl) (by kernel_rfl) (by kernel_rfl) (fun _ _ _ h => h) (by rfl) (fun wS hSw => ?_) hHeld ?_
        rotate_left
        focus (go_simp; (try with_reducible rfl); done)
        try simp only [Act.put, List.setIfInBounds_toArray, List.set_cons_zero, List.set_cons_succ]
        refine' take_ 3 rfl (by kernel_rfl) (by kernel_rfl) (by kernel_rfl) (fun _ _ _ h => h) (by rfl) (fun wS hSw => run_load_c wS 43 _ gr rfl _ Try.underlying43 (by kernel_rfl) 43 (RR_w5.out.below hSw RR_w5.out.lt) _ _ _ _ _) g0 ?_
        try simp only [Act.put, List.setIfInBounds_toArray, List.set_cons_zero, List.set_cons_succ]
        refine' take_ 4 rfl (by kernel_rfl) (by kernel_rfl) (by kernel_rfl) (fun _ _ _ h => h) (by rfl) (fun wS hSw => ?_) hHeld ?_
        rotate_left
        focus (go_simp; (try with_reducible rfl); done)
        try simp only [Act.put, List.setIfInBounds_toArray, List.set_cons_zero, List.set_cons_succ]
        refine wpAnyH_ready (rs := [2, 6, 7]) (by kernel_rfl) (by simp) ?_
        refine AllReadyH.cons rfl (fun K hK => ?_) ?_
        · rw [if_pos (by rfl)]
          refine wp_call_ret 11 _ _ rfl _ (by rfl) (by kernel_rfl) _ (K5.out _) (fun Y1 hB => ?_)
          have h1 := hHeld.trans (hB.mono hHeld.size)
          refine hK.out _ _ h1 (fun _ => ?_)
          clear hK K hB
          show wpAnyH _ _ _ _ _ _ _ (Act.put _ (some 69) _) _
          try simp only [Act.put, List.setIfInBounds_toArray, List.set_cons_zero, List.set_cons_succ]
          refine wpAnyH_ready (rs := [5, 6, 7]) (by kernel_rfl) (by simp) ?_
          refine AllReadyH.cons rfl (fun K hK => ?_) ?_
          · rw [if_pos (by rfl)]
            refine wp_call_ret 17 _ _ rfl _ (by rfl) (by kernel_rfl) _ (K6.out _) (fun Y2 hB => ?_)
            have h2 := h1.trans (hB.mono h1.size)
            refine hK.out _ _ h2 (fun _ => ?_)
            clear hK K hB
            show wpAnyH _ _ _ _ _ _ _ (Act.put _ (some 72) _) _
            try simp only [Act.put, List.setIfInBounds_toArray, List.set_cons_zero, List.set_cons_succ]
            refine wpAnyH_ready (rs := [6, 7]) (by kernel_rfl) (by simp) ?_
            refine AllReadyH.cons rfl (fun K hK => ?_) ?_
            · rw [if_pos (by rfl)]
              refine wp_of_run (w' := Y2.alloc (.cells #[.int .u8 0, .int .u8 0] 23)) (.pointer (some ⟨Y2.heap.size, 0, none⟩)) (by kernel_rfl) ?_
              have h3 := h2.alloc h2.size (.cells #[.int .u8 0, .int .u8 0] 23)
              have r20_Y3 : CRow _ Y2.heap.size 23 ⟨0, 0⟩ := alloc_at Y2 (.cells #[.int .u8 0, .int .u8 0] 23)
              have b20 := h2.size
              refine hK.out _ _ h3 (fun _ => ?_)
              clear hK K
              generalize Y2.alloc (.cells #[.int .u8 0, .int .u8 0] 23) = Y3 at *
              show wpAnyH _ _ _ _ _ _ _ (Act.put _ (some 20) _) _
              try simp only [Act.put, List.setIfInBounds_toArray, List.set_cons_zero, List.set_cons_succ]
              refine only_ 7 rfl (by kernel_rfl) (by rfl) (fun K hK => ?_)
              refine wp_of_run (w' := Y3.alloc (.cells #[.int .u8 0, .int .u8 0] 43)) (.pointer (some ⟨Y3.heap.size, 0, none⟩)) (by kernel_rfl) ?_
              have h4 := h3.alloc h3.size (.cells #[.int .u8 0, .int .u8 0] 43)
              have r21_Y4 : CRow _ Y3.heap.size 43 ⟨0, 0⟩ := alloc_at Y3 (.cells #[.int .u8 0, .int .u8 0] 43)
              have b21 := h3.size
              have r20_Y4 := CRow.below r20_Y3 ((Below.refl _ _).alloc (Nat.le_refl _) (.cells #[.int .u8 0, .int .u8 0] 43)) r20_Y3.lt
              have ne := Nat.ne_of_lt r20_Y3.lt
              refine hK.out _ _ h4 (fun _ => ?_)
              clear hK K
              generalize Y3.alloc (.cells #[.int .u8 0, .int .u8 0] 43) = Y4 at *
              show wpAnyH _ _ _ _ _ _ _ (Act.put _ (some 21) _) _
              try simp only [Act.put, List.setIfInBounds_toArray, List.set_cons_zero, List.set_cons_succ]
              refine only_ 8 rfl (by kernel_rfl) (by rfl) (fun K hK => ?_)
              refine wp_store_c2 23 _ _ rfl (Y2.heap.size) rfl rfl (by kernel_rfl) 23 r20_Y4 ?_
              intro Y5 HN HO HB
              have h5 := h4.trans (HB.out.mono b20)
              have r20_Y5 := HN.out
              have r21_Y5 := CRow.other r21_Y4 HO.out ne.symm
              refine hK.out _ _ h5 (fun _ => ?_)
              clear hK K HN HO HB
              try simp only [Act.put]
              refine only_ 9 rfl (by kernel_rfl) (by rfl) (fun K hK => ?_)
              refine wp_store_c2 43 _ _ rfl (Y3.heap.size) rfl rfl (by kernel_rfl) 43 r21_Y5 ?_
              intro Y6 HN HO HB
              have h6 := h5.trans (HB.out.mono b21)
              have r21_Y6 := HN.out
              have r20_Y6 := CRow.other r20_Y5 HO.out ne
              refine hK.out _ _ h6 (fun _ => ?_)
              clear hK K HN HO HB
              try simp only [Act.put]
              refine wpAnyH_done (by kernel_rfl) ?_ _
              refine NoPanic.normal ?_
              go_wp2
              go_meet
              case rel => exact ⟨_, _, _, rfl, rfl, rfl, r20_Y6, r21_Y6, h6⟩
            refine AllReadyH.cons rfl (fun K hK => ?_) ?_
            · rw [if_pos (by rfl)]
              refine wp_of_run (w' := Y2.alloc (.cells #[.int .u8 0, .int .u8 0] 43)) (.pointer (some ⟨Y2.heap.size, 0, none⟩)) (by kernel_rfl) ?_
              have h3 := h2.alloc h2.size (.cells #[.int .u8 0, .int .u8 0] 43)
              have r21_Y3 : CRow _ Y2.heap.size 43 ⟨0, 0⟩ := alloc_at Y2 (.cells #[.int .u8 0, .int .u8 0] 43)
              have b21 := h2.size
              refine hK.out _ _ h3 (fun _ => ?_)
              clear hK K
              generalize Y2.alloc (.cells #[.int .u8 0, .int .u8 0] 43) = Y3 at *
              show wpAnyH _ _ _ _ _ _ _ (Act.put _ (some 21) _) _
              try simp only [Act.put, List.setIfInBounds_toArray, List.set_cons_zero, List.set_cons_succ]
              refine only_ 6 rfl (by kernel_rfl) (by rfl) (fun K hK => ?_)
              refine wp_of_run (w' := Y3.alloc (.cells #[.int .u8 0, .int .u8 0] 23)) (.pointer (some ⟨Y3.heap.size, 0, none⟩)) (by kernel_rfl) ?_
              have h4 := h3.alloc h3.size (.cells #[.int .u8 0, .int .u8 0] 23)
              have r20_Y4 : CRow _ Y3.heap.size 23 ⟨0, 0⟩ := alloc_at Y3 (.cells #[.int .u8 0, .int .u8 0] 23)
              have b20 := h3.size
              have r21_Y4 := CRow.below r21_Y3 ((Below.refl _ _).alloc (Nat.le_refl _) (.cells #[.int .u8 0, .int .u8 0] 23)) r21_Y3.lt
              have ne := Nat.ne_of_lt r21_Y3.lt
              refine hK.out _ _ h4 (fun _ => ?_)
              clear hK K
              generalize Y3.alloc (.cells #[.int .u8 0, .int .u8 0] 23) = Y4 at *
              show wpAnyH _ _ _ _ _ _ _ (Act.put _ (some 20) _) _
              try simp only [Act.put, List.setIfInBounds_toArray, List.set_cons_zero, List.set_cons_succ]
              refine only_ 8 rfl (by kernel_rfl) (by rfl) (fun K hK => ?_)
              refine wp_store_c2 23 _ _ rfl (Y3.heap.size) rfl rfl (by kernel_rfl) 23 r20_Y4 ?_
              intro Y5 HN HO HB
              have h5 := h4.trans (HB.out.mono b20)
              have r20_Y5 := HN.out
              have r21_Y5 := CRow.other r21_Y4 HO.out ne
              refine hK.out _ _ h5 (fun _ => ?_)
              clear hK K HN HO HB
              try simp only [Act.put]
              refine only_ 9 rfl (by kernel_rfl) (by rfl) (fun K hK => ?_)
              refine wp_store_c2 43 _ _ rfl (Y2.heap.size) rfl rfl (by kernel_rfl) 43 r21_Y5 ?_
              intro Y6 HN HO HB
              have h6 := h5.trans (HB.out.mono b21)
              have r21_Y6 := HN.out
              have r20_Y6 := CRow.other r20_Y5 HO.out ne.symm
              refine hK.out _ _ h6 (fun _ => ?_)
              clear hK K HN HO HB
              try simp only [Act.put]
              refine wpAnyH_done (by kernel_rfl) ?_ _
              refine NoPanic.normal ?_
              go_wp2
              go_meet
              case rel => exact ⟨_, _, _, rfl, rfl, rfl, r20_Y6, r21_Y6, h6⟩
            exact AllReadyH.nil
          refine AllReadyH.cons rfl (fun K hK => ?_) ?_
          · rw [if_pos (by rfl)]
            refine wp_of_run (w' := Y1.alloc (.cells #[.int .u8 0, .int .u8 0] 23)) (.pointer (some ⟨Y1.heap.size, 0, none⟩)) (by kernel_rfl) ?_
            have h2 := h1.alloc h1.size (.cells #[.int .u8 0, .int .u8 0] 23)
            have r20_Y2 : CRow _ Y1.heap.size 23 ⟨0, 0⟩ := alloc_at Y1 (.cells #[.int .u8 0, .int .u8 0] 23)
            have b20 := h1.size
            refine hK.out _ _ h2 (fun _ => ?_)
            clear hK K
            generalize Y1.alloc (.cells #[.int .u8 0, .int .u8 0] 23) = Y2 at *
            show wpAnyH _ _ _ _ _ _ _ (Act.put _ (some 20) _) _
            try simp only [Act.put, List.setIfInBounds_toArray, List.set_cons_zero, List.set_cons_succ]
            refine wpAnyH_ready (rs := [5, 7]) (by kernel_rfl) (by simp) ?_
            refine AllReadyH.cons rfl (fun K hK => ?_) ?_
            · rw [if_pos (by rfl)]
              refine wp_call_ret 17 _ _ rfl _ (by rfl) (by kernel_rfl) _ (K6.out _) (fun Y3 hB => ?_)
              have h3 := h2.trans (hB.mono h2.size)
              have r20_Y3 := CRow.below r20_Y2 hB r20_Y2.lt
              refine hK.out _ _ h3 (fun _ => ?_)
              clear hK K hB
              show wpAnyH _ _ _ _ _ _ _ (Act.put _ (some 72) _) _
              try simp only [Act.put, List.setIfInBounds_toArray, List.set_cons_zero, List.set_cons_succ]
              refine only_ 7 rfl (by kernel_rfl) (by rfl) (fun K hK => ?_)
              refine wp_of_run (w' := Y3.alloc (.cells #[.int .u8 0, .int .u8 0] 43)) (.pointer (some ⟨Y3.heap.size, 0, none⟩)) (by kernel_rfl) ?_
              have h4 := h3.alloc h3.size (.cells #[.int .u8 0, .int .u8 0] 43)
              have r21_Y4 : CRow _ Y3.heap.size 43 ⟨0, 0⟩ := alloc_at Y3 (.cells #[.int .u8 0, .int .u8 0] 43)
              have b21 := h3.size
              have r20_Y4 := CRow.below r20_Y3 ((Below.refl _ _).alloc (Nat.le_refl _) (.cells #[.int .u8 0, .int .u8 0] 43)) r20_Y3.lt
              have ne := Nat.ne_of_lt r20_Y3.lt
              refine hK.out _ _ h4 (fun _ => ?_)
              clear hK K
              generalize Y3.alloc (.cells #[.int .u8 0, .int .u8 0] 43) = Y4 at *
              show wpAnyH _ _ _ _ _ _ _ (Act.put _ (some 21) _) _
              try simp only [Act.put, List.setIfInBounds_toArray, List.set_cons_zero, List.set_cons_succ]
              refine only_ 8 rfl (by kernel_rfl) (by rfl) (fun K hK => ?_)
              refine wp_store_c2 23 _ _ rfl (Y1.heap.size) rfl rfl (by kernel_rfl) 23 r20_Y4 ?_
              intro Y5 HN HO HB
              have h5 := h4.trans (HB.out.mono b20)
              have r20_Y5 := HN.out
              have r21_Y5 := CRow.other r21_Y4 HO.out ne.symm
              refine hK.out _ _ h5 (fun _ => ?_)
              clear hK K HN HO HB
              try simp only [Act.put]
              refine only_ 9 rfl (by kernel_rfl) (by rfl) (fun K hK => ?_)
              refine wp_store_c2 43 _ _ rfl (Y3.heap.size) rfl rfl (by kernel_rfl) 43 r21_Y5 ?_
              intro Y6 HN HO HB
              have h6 := h5.trans (HB.out.mono b21)
              have r21_Y6 := HN.out
              have r20_Y6 := CRow.other r20_Y5 HO.out ne
              refine hK.out _ _ h6 (fun _ => ?_)
              clear hK K HN HO HB
              try simp only [Act.put]
              refine wpAnyH_done (by kernel_rfl) ?_ _
              refine NoPanic.normal ?_
              go_wp2
              go_meet
              case rel => exact ⟨_, _, _, rfl, rfl, rfl, r20_Y6, r21_Y6, h6⟩
            refine AllReadyH.cons rfl (fun K hK => ?_) ?_
            · rw [if_pos (by rfl)]
              refine wp_of_run (w' := Y2.alloc (.cells #[.int .u8 0, .int .u8 0] 43)) (.pointer (some ⟨Y2.heap.size, 0, none⟩)) (by kernel_rfl) ?_
              have h3 := h2.alloc h2.size (.cells #[.int .u8 0, .int .u8 0] 43)
              have r21_Y3 : CRow _ Y2.heap.size 43 ⟨0, 0⟩ := alloc_at Y2 (.cells #[.int .u8 0, .int .u8 0] 43)
              have b21 := h2.size
              have r20_Y3 := CRow.below r20_Y2 ((Below.refl _ _).alloc (Nat.le_refl _) (.cells #[.int .u8 0, .int .u8 0] 43)) r20_Y2.lt
              have ne := Nat.ne_of_lt r20_Y2.lt
              refine hK.out _ _ h3 (fun _ => ?_)
              clear hK K
              generalize Y2.alloc (.cells #[.int .u8 0, .int .u8 0] 43) = Y3 at *
              show wpAnyH _ _ _ _ _ _ _ (Act.put _ (some 21) _) _
              try simp only [Act.put, List.setIfInBounds_toArray, List.set_cons_zero, List.set_cons_succ]
              refine only_ 5 rfl (by kernel_rfl) (by rfl) (fun K hK => ?_)
              refine wp_call_ret 17 _ _ rfl _ (by rfl) (by kernel_rfl) _ (K6.out _) (fun Y4 hB => ?_)
              have h4 := h3.trans (hB.mono h3.size)
              have r20_Y4 := CRow.below r20_Y3 hB r20_Y3.lt
              have r21_Y4 := CRow.below r21_Y3 hB r21_Y3.lt
              refine hK.out _ _ h4 (fun _ => ?_)
              clear hK K hB
              show wpAnyH _ _ _ _ _ _ _ (Act.put _ (some 72) _) _
              try simp only [Act.put, List.setIfInBounds_toArray, List.set_cons_zero, List.set_cons_succ]
              refine only_ 8 rfl (by kernel_rfl) (by rfl) (fun K hK => ?_)
              refine wp_store_c2 23 _ _ rfl (Y1.heap.size) rfl rfl (by kernel_rfl) 23 r20_Y4 ?_
              intro Y5 HN HO HB
              have h5 := h4.trans (HB.out.mono b20)
              have r20_Y5 := HN.out
              have r21_Y5 := CRow.other r21_Y4 HO.out ne.symm
              refine hK.out _ _ h5 (fun _ => ?_)
              clear hK K HN HO HB
              try simp only [Act.put]
              refine only_ 9 rfl (by kernel_rfl) (by rfl) (fun K hK => ?_)
              refine wp_store_c2 43 _ _ rfl (Y2.heap.size) rfl rfl (by kernel_rfl) 43 r21_Y5 ?_
              intro Y6 HN HO HB
              have h6 := h5.trans (HB.out.mono b21)
              have r21_Y6 := HN.out
              have r20_Y6 := CRow.other r20_Y5 HO.out ne
              refine hK.out _ _ h6 (fun _ => ?_)
              clear hK K HN HO HB
              try simp only [Act.put]
              refine wpAnyH_done (by kernel_rfl) ?_ _
              refine NoPanic.normal ?_
              go_wp2
              go_meet
              case rel => exact ⟨_, _, _, rfl, rfl, rfl, r20_Y6, r21_Y6, h6⟩
            exact AllReadyH.nil
          refine AllReadyH.cons rfl (fun K hK => ?_) ?_
          · rw [if_pos (by rfl)]
            refine wp_of_run (w' := Y1.alloc (.cells #[.int .u8 0, .int .u8 0] 43)) (.pointer (some ⟨Y1.heap.size, 0, none⟩)) (by kernel_rfl) ?_
            have h2 := h1.alloc h1.size (.cells #[.int .u8 0, .int .u8 0] 43)
            have r21_Y2 : CRow _ Y1.heap.size 43 ⟨0, 0⟩ := alloc_at Y1 (.cells #[.int .u8 0, .int .u8 0] 43)
            have b21 := h1.size
            refine hK.out _ _ h2 (fun _ => ?_)
            clear hK K
            generalize Y1.alloc (.cells #[.int .u8 0, .int .u8 0] 43) = Y2 at *
            show wpAnyH _ _ _ _ _ _ _ (Act.put _ (some 21) _) _
            try simp only [Act.put, List.setIfInBounds_toArray, List.set_cons_zero, List.set_cons_succ]
            refine wpAnyH_ready (rs := [5, 6]) (by kernel_rfl) (by simp) ?_
            refine AllReadyH.cons rfl (fun K hK => ?_) ?_
            · rw [if_pos (by rfl)]
              refine wp_call_ret 17 _ _ rfl _ (by rfl) (by kernel_rfl) _ (K6.out _) (fun Y3 hB => ?_)
              have h3 := h2.trans (hB.mono h2.size)
              have r21_Y3 := CRow.below r21_Y2 hB r21_Y2.lt
              refine hK.out _ _ h3 (fun _ => ?_)
              clear hK K hB
              show wpAnyH _ _ _ _ _ _ _ (Act.put _ (some 72) _) _
              try simp only [Act.put, List.setIfInBounds_toArray, List.set_cons_zero, List.set_cons_succ]
              refine only_ 6 rfl (by kernel_rfl) (by rfl) (fun K hK => ?_)
              refine wp_of_run (w' := Y3.alloc (.cells #[.int .u8 0, .int .u8 0] 23)) (.pointer (some ⟨Y3.heap.size, 0, none⟩)) (by kernel_rfl) ?_
              have h4 := h3.alloc h3.size (.cells #[.int .u8 0, .int .u8 0] 23)
              have r20_Y4 : CRow _ Y3.heap.size 23 ⟨0, 0⟩ := alloc_at Y3 (.cells #[.int .u8 0, .int .u8 0] 23)
              have b20 := h3.size
              have r21_Y4 := CRow.below r21_Y3 ((Below.refl _ _).alloc (Nat.le_refl _) (.cells #[.int .u8 0, .int .u8 0] 23)) r21_Y3.lt
              have ne := Nat.ne_of_lt r21_Y3.lt
              refine hK.out _ _ h4 (fun _ => ?_)
              clear hK K
              generalize Y3.alloc (.cells #[.int .u8 0, .int .u8 0] 23) = Y4 at *
              show wpAnyH _ _ _ _ _ _ _ (Act.put _ (some 20) _) _
              try simp only [Act.put, List.setIfInBounds_toArray, List.set_cons_zero, List.set_cons_succ]
              refine only_ 8 rfl (by kernel_rfl) (by rfl) (fun K hK => ?_)
              refine wp_store_c2 23 _ _ rfl (Y3.heap.size) rfl rfl (by kernel_rfl) 23 r20_Y4 ?_
              intro Y5 HN HO HB
              have h5 := h4.trans (HB.out.mono b20)
              have r20_Y5 := HN.out
              have r21_Y5 := CRow.other r21_Y4 HO.out ne
              refine hK.out _ _ h5 (fun _ => ?_)
              clear hK K HN HO HB
              try simp only [Act.put]
              refine only_ 9 rfl (by kernel_rfl) (by rfl) (fun K hK => ?_)
              refine wp_store_c2 43 _ _ rfl (Y1.heap.size) rfl rfl (by kernel_rfl) 43 r21_Y5 ?_
              intro Y6 HN HO HB
              have h6 := h5.trans (HB.out.mono b21)
              have r21_Y6 := HN.out
              have r20_Y6 := CRow.other r20_Y5 HO.out ne.symm
              refine hK.out _ _ h6 (fun _ => ?_)
              clear hK K HN HO HB
              try simp only [Act.put]
              refine wpAnyH_done (by kernel_rfl) ?_ _
              refine NoPanic.normal ?_
              go_wp2
              go_meet
              case rel => exact ⟨_, _, _, rfl, rfl, rfl, r20_Y6, r21_Y6, h6⟩
            refine AllReadyH.cons rfl (fun K hK => ?_) ?_
            · rw [if_pos (by rfl)]
              refine wp_of_run (w' := Y2.alloc (.cells #[.int .u8 0, .int .u8 0] 23)) (.pointer (some ⟨Y2.heap.size, 0, none⟩)) (by kernel_rfl) ?_
              have h3 := h2.alloc h2.size (.cells #[.int .u8 0, .int .u8 0] 23)
              have r20_Y3 : CRow _ Y2.heap.size 23 ⟨0, 0⟩ := alloc_at Y2 (.cells #[.int .u8 0, .int .u8 0] 23)
              have b20 := h2.size
              have r21_Y3 := CRow.below r21_Y2 ((Below.refl _ _).alloc (Nat.le_refl _) (.cells #[.int .u8 0, .int .u8 0] 23)) r21_Y2.lt
              have ne := Nat.ne_of_lt r21_Y2.lt
              refine hK.out _ _ h3 (fun _ => ?_)
              clear hK K
              generalize Y2.alloc (.cells #[.int .u8 0, .int .u8 0] 23) = Y3 at *
              show wpAnyH _ _ _ _ _ _ _ (Act.put _ (some 20) _) _
              try simp only [Act.put, List.setIfInBounds_toArray, List.set_cons_zero, List.set_cons_succ]
              refine only_ 5 rfl (by kernel_rfl) (by rfl) (fun K hK => ?_)
              refine wp_call_ret 17 _ _ rfl _ (by rfl) (by kernel_rfl) _ (K6.out _) (fun Y4 hB => ?_)
              have h4 := h3.trans (hB.mono h3.size)
              have r21_Y4 := CRow.below r21_Y3 hB r21_Y3.lt
              have r20_Y4 := CRow.below r20_Y3 hB r20_Y3.lt
              refine hK.out _ _ h4 (fun _ => ?_)
              clear hK K hB
              show wpAnyH _ _ _ _ _ _ _ (Act.put _ (some 72) _) _
              try simp only [Act.put, List.setIfInBounds_toArray, List.set_cons_zero, List.set_cons_succ]
              refine only_ 8 rfl (by kernel_rfl) (by rfl) (fun K hK => ?_)
              refine wp_store_c2 23 _ _ rfl (Y2.heap.size) rfl rfl (by kernel_rfl) 23 r20_Y4 ?_
              intro Y5 HN HO HB
              have h5 := h4.trans (HB.out.mono b20)
              have r20_Y5 := HN.out
              have r21_Y5 := CRow.other r21_Y4 HO.out ne
              refine hK.out _ _ h5 (fun _ => ?_)
              clear hK K HN HO HB
              try simp only [Act.put]
              refine only_ 9 rfl (by kernel_rfl) (by rfl) (fun K hK => ?_)
              refine wp_store_c2 43 _ _ rfl (Y1.heap.size) rfl rfl (by kernel_rfl) 43 r21_Y5 ?_
              intro Y6 HN HO HB
              have h6 := h5.trans (HB.out.mono b21)
              have r21_Y6 := HN.out
              have r20_Y6 := CRow.other r20_Y5 HO.out ne.symm
              refine hK.out _ _ h6 (fun _ => ?_)
              clear hK K HN HO HB
              try simp only [Act.put]
              refine wpAnyH_done (by kernel_rfl) ?_ _
              refine NoPanic.normal ?_
              go_wp2
              go_meet
              case rel => exact ⟨_, _, _, rfl, rfl, rfl, r20_Y6, r21_Y6, h6⟩
            exact AllReadyH.nil
          exact AllReadyH.nil
        refine AllReadyH.cons rfl (fun K hK => ?_) ?_
        · rw [if_pos (by rfl)]
          refine wp_of_run (w' := Y0.alloc (.cells #[.int .u8 0, .int .u8 0] 23)) (.pointer (some ⟨Y0.heap.size, 0, none⟩)) (by kernel_rfl) ?_
          have h1 := hHeld.alloc hHeld.size (.cells #[.int .u8 0, .int .u8 0] 23)
          have r20_Y1 : CRow _ Y0.heap.size 23 ⟨0, 0⟩ := alloc_at Y0 (.cells #[.int .u8 0, .int .u8 0] 23)
          have b20 := hHeld.size
          refine hK.out _ _ h1 (fun _ => ?_)
          clear hK K
          generalize Y0.alloc (.cells #[.int .u8 0, .int .u8 0] 23) = Y1 at *
          show wpAnyH _ _ _ _ _ _ _ (Act.put _ (some 20) _) _
          try simp only [Act.put, List.setIfInBounds_toArray, List.set_cons_zero, List.set_cons_succ]
          refine wpAnyH_ready (rs := [2, 7]) (by kernel_rfl) (by simp) ?_
          refine AllReadyH.cons rfl (fun K hK => ?_) ?_
          · rw [if_pos (by rfl)]
            refine wp_call_ret 11 _ _ rfl _ (by rfl) (by kernel_rfl) _ (K5.out _) (fun Y2 hB => ?_)
            have h2 := h1.trans (hB.mono h1.size)
            have r20_Y2 := CRow.below r20_Y1 hB r20_Y1.lt
            refine hK.out _ _ h2 (fun _ => ?_)
            clear hK K hB
            show wpAnyH _ _ _ _ _ _ _ (Act.put _ (some 69) _) _
            try simp only [Act.put, List.setIfInBounds_toArray, List.set_cons_zero, List.set_cons_succ]
            refine wpAnyH_ready (rs := [5, 7]) (by kernel_rfl) (by simp) ?_
            refine AllReadyH.cons rfl (fun K hK => ?_) ?_
            · rw [if_pos (by rfl)]
              refine wp_call_ret 17 _ _ rfl _ (by rfl) (by kernel_rfl) _ (K6.out _) (fun Y3 hB => ?_)
              have h3 := h2.trans (hB.mono h2.size)
              have r20_Y3 := CRow.below r20_Y2 hB r20_Y2.lt
              refine hK.out _ _ h3 (fun _ => ?_)
              clear hK K hB
              show wpAnyH _ _ _ _ _ _ _ (Act.put _ (some 72) _) _
              try simp only [Act.put, List.setIfInBounds_toArray, List.set_cons_zero, List.set_cons_succ]
              refine only_ 7 rfl (by kernel_rfl) (by rfl) (fun K hK => ?_)
              refine wp_of_run (w' := Y3.alloc (.cells #[.int .u8 0, .int .u8 0] 43)) (.pointer (some ⟨Y3.heap.size, 0, none⟩)) (by kernel_rfl) ?_
              have h4 := h3.alloc h3.size (.cells #[.int .u8 0, .int .u8 0] 43)
              have r21_Y4 : CRow _ Y3.heap.size 43 ⟨0, 0⟩ := alloc_at Y3 (.cells #[.int .u8 0, .int .u8 0] 43)
              have b21 := h3.size
              have r20_Y4 := CRow.below r20_Y3 ((Below.refl _ _).alloc (Nat.le_refl _) (.cells #[.int .u8 0, .int .u8 0] 43)) r20_Y3.lt
              have ne := Nat.ne_of_lt r20_Y3.lt
              refine hK.out _ _ h4 (fun _ => ?_)
              clear hK K
              generalize Y3.alloc (.cells #[.int .u8 0, .int .u8 0] 43) = Y4 at *
              show wpAnyH _ _ _ _ _ _ _ (Act.put _ (some 21) _) _
              try simp only [Act.put, List.setIfInBounds_toArray, List.set_cons_zero, List.set_cons_succ]
              refine only_ 8 rfl (by kernel_rfl) (by rfl) (fun K hK => ?_)
              refine wp_store_c2 23 _ _ rfl (Y0.heap.size) rfl rfl (by kernel_rfl) 23 r20_Y4 ?_
              intro Y5 HN HO HB
              have h5 := h4.trans (HB.out.mono b20)
              have r20_Y5 := HN.out
              have r21_Y5 := CRow.other r21_Y4 HO.out ne.symm
              refine hK.out _ _ h5 (fun _ => ?_)
              clear hK K HN HO HB
              try simp only [Act.put]
              refine only_ 9 rfl (by kernel_rfl) (by rfl) (fun K hK => ?_)
              refine wp_store_c2 43 _ _ rfl (Y3.heap.size) rfl rfl (by kernel_rfl) 43 r21_Y5 ?_
              intro Y6 HN HO HB
              have h6 := h5.trans (HB.out.mono b21)
              have r21_Y6 := HN.out
              have r20_Y6 := CRow.other r20_Y5 HO.out ne
              refine hK.out _ _ h6 (fun _ => ?_)
              clear hK K HN HO HB
              try simp only [Act.put]
              refine wpAnyH_done (by kernel_rfl) ?_ _
              refine NoPanic.normal ?_
              go_wp2
              go_meet
              case rel => exact ⟨_, _, _, rfl, rfl, rfl, r20_Y6, r21_Y6, h6⟩
            refine AllReadyH.cons rfl (fun K hK => ?_) ?_
            · rw [if_pos (by rfl)]
              refine wp_of_run (w' := Y2.alloc (.cells #[.int .u8 0, .int .u8 0] 43)) (.pointer (some ⟨Y2.heap.size, 0, none⟩)) (by kernel_rfl) ?_
              have h3 := h2.alloc h2.size (.cells #[.int .u8 0, .int .u8 0] 43)
              have r21_Y3 : CRow _ Y2.heap.size 43 ⟨0, 0⟩ := alloc_at Y2 (.cells #[.int .u8 0, .int .u8 0] 43)
              have b21 := h2.size
              have r20_Y3 := CRow.below r20_Y2 ((Below.refl _ _).alloc (Nat.le_refl _) (.cells #[.int .u8 0, .int .u8 0] 43)) r20_Y2.lt
              have ne := Nat.ne_of_lt r20_Y2.lt
              refine hK.out _ _ h3 (fun _ => ?_)
              clear hK K
              generalize Y2.alloc (.cells #[.int .u8 0, .int .u8 0] 43) = Y3 at *
              show wpAnyH _ _ _ _ _ _ _ (Act.put _ (some 21) _) _
              try simp only [Act.put, List.setIfInBounds_toArray, List.set_cons_zero, List.set_cons_succ]
              refine only_ 5 rfl (by kernel_rfl) (by rfl) (fun K hK => ?_)
              refine wp_call_ret 17 _ _ rfl _ (by rfl) (by kernel_rfl) _ (K6.out _) (fun Y4 hB => ?_)
              have h4 := h3.trans (hB.mono h3.size)
              have r20_Y4 := CRow.below r20_Y3 hB r20_Y3.lt
              have r21_Y4 := CRow.below r21_Y3 hB r21_Y3.lt
              refine hK.out _ _ h4 (fun _ => ?_)
              clear hK K hB
              show wpAnyH _ _ _ _ _ _ _ (Act.put _ (some 72) _) _
              try simp only [Act.put, List.setIfInBounds_toArray, List.set_cons_zero, List.set_cons_succ]
              refine only_ 8 rfl (by kernel_rfl) (by rfl) (fun K hK => ?_)
              refine wp_store_c2 23 _ _ rfl (Y0.heap.size) rfl rfl (by kernel_rfl) 23 r20_Y4 ?_
              intro Y5 HN HO HB
              have h5 := h4.trans (HB.out.mono b20)
              have r20_Y5 := HN.out
              have r21_Y5 := CRow.other r21_Y4 HO.out ne.symm
              refine hK.out _ _ h5 (fun _ => ?_)
              clear hK K HN HO HB
              try simp only [Act.put]
              refine only_ 9 rfl (by kernel_rfl) (by rfl) (fun K hK => ?_)
              refine wp_store_c2 43 _ _ rfl (Y2.heap.size) rfl rfl (by kernel_rfl) 43 r21_Y5 ?_
              intro Y6 HN HO HB
              have h6 := h5.trans (HB.out.mono b21)
              have r21_Y6 := HN.out
              have r20_Y6 := CRow.other r20_Y5 HO.out ne
              refine hK.out _ _ h6 (fun _ => ?_)
              clear hK K HN HO HB
              try simp only [Act.put]
              refine wpAnyH_done (by kernel_rfl) ?_ _
              refine NoPanic.normal ?_
              go_wp2
              go_meet
              case rel => exact ⟨_, _, _, rfl, rfl, rfl, r20_Y6, r21_Y6, h6⟩
            exact AllReadyH.nil
          refine AllReadyH.cons rfl (fun K hK => ?_) ?_
          · rw [if_pos (by rfl)]
            refine wp_of_run (w' := Y1.alloc (.cells #[.int .u8 0, .int .u8 0] 43)) (.pointer (some ⟨Y1.heap.size, 0, none⟩)) (by kernel_rfl) ?_
            have h2 := h1.alloc h1.size (.cells #[.int .u8 0, .int .u8 0] 43)
            have r21_Y2 : CRow _ Y1.heap.size 43 ⟨0, 0⟩ := alloc_at Y1 (.cells #[.int .u8 0, .int .u8 0] 43)
            have b21 := h1.size
            have r20_Y2 := CRow.below r20_Y1 ((Below.refl _ _).alloc (Nat.le_refl _) (.cells #[.int .u8 0, .int .u8 0] 43)) r20_Y1.lt
            have ne := Nat.ne_of_lt r20_Y1.lt
            refine hK.out _ _ h2 (fun _ => ?_)
            clear hK K
            generalize Y1.alloc (.cells #[.int .u8 0, .int .u8 0] 43) = Y2 at *
            show wpAnyH _ _ _ _ _ _ _ (Act.put _ (some 21) _) _
            try simp only [Act.put, List.setIfInBounds_toArray, List.set_cons_zero, List.set_cons_succ]
            refine only_ 2 rfl (by kernel_rfl) (by rfl) (fun K hK => ?_)
            refine wp_call_ret 11 _ _ rfl _ (by rfl) (by kernel_rfl) _ (K5.out _) (fun Y3 hB => ?_)
            have h3 := h2.trans (hB.mono h2.size)
            have r20_Y3 := CRow.below r20_Y2 hB r20_Y2.lt
            have r21_Y3 := CRow.below r21_Y2 hB r21_Y2.lt
            refine hK.out _ _ h3 (fun _ => ?_)
            clear hK K hB
            show wpAnyH _ _ _ _ _ _ _ (Act.put _ (some 69) _) _
            try simp only [Act.put, List.setIfInBounds_toArray, List.set_cons_zero, List.set_cons_succ]
            refine only_ 5 rfl (by kernel_rfl) (by rfl) (fun K hK => ?_)
            refine wp_call_ret 17 _ _ rfl _ (by rfl) (by kernel_rfl) _ (K6.out _) (fun Y4 hB => ?_)
            have h4 := h3.trans (hB.mono h3.size)
            have r20_Y4 := CRow.below r20_Y3 hB r20_Y3.lt
            have r21_Y4 := CRow.below r21_Y3 hB r21_Y3.lt
            refine hK.out _ _ h4 (fun _ => ?_)
            clear hK K hB
            show wpAnyH _ _ _ _ _ _ _ (Act.put _ (some 72) _) _
            try simp only [Act.put, List.setIfInBounds_toArray, List.set_cons_zero, List.set_cons_succ]
            refine only_ 8 rfl (by kernel_rfl) (by rfl) (fun K hK => ?_)
            refine wp_store_c2 23 _ _ rfl (Y0.heap.size) rfl rfl (by kernel_rfl) 23 r20_Y4 ?_
            intro Y5 HN HO HB
            have h5 := h4.trans (HB.out.mono b20)
            have r20_Y5 := HN.out
            have r21_Y5 := CRow.other r21_Y4 HO.out ne.symm
            refine hK.out _ _ h5 (fun _ => ?_)
            clear hK K HN HO HB
            try simp only [Act.put]
            refine only_ 9 rfl (by kernel_rfl) (by rfl) (fun K hK => ?_)
            refine wp_store_c2 43 _ _ rfl (Y1.heap.size) rfl rfl (by kernel_rfl) 43 r21_Y5 ?_
            intro Y6 HN HO HB
            have h6 := h5.trans (HB.out.mono b21)
            have r21_Y6 := HN.out
            have r20_Y6 := CRow.other r20_Y5 HO.out ne
            refine hK.out _ _ h6 (fun _ => ?_)
            clear hK K HN HO HB
            try simp only [Act.put]
            refine wpAnyH_done (by kernel_rfl) ?_ _
            refine NoPanic.normal ?_
            go_wp2
            go_meet
            case rel => exact ⟨_, _, _, rfl, rfl, rfl, r20_Y6, r21_Y6, h6⟩
          exact AllReadyH.nil
        refine AllReadyH.cons rfl (fun K hK => ?_) ?_
        · rw [if_pos (by rfl)]
          refine wp_of_run (w' := Y0.alloc (.cells #[.int .u8 0, .int .u8 0] 43)) (.pointer (some ⟨Y0.heap.size, 0, none⟩)) (by kernel_rfl) ?_
          have h1 := hHeld.alloc hHeld.size (.cells #[.int .u8 0, .int .u8 0] 43)
          have r21_Y1 : CRow _ Y0.heap.size 43 ⟨0, 0⟩ := alloc_at Y0 (.cells #[.int .u8 0, .int .u8 0] 43)
          have b21 := hHeld.size
          refine hK.out _ _ h1 (fun _ => ?_)
          clear hK K
          generalize Y0.alloc (.cells #[.int .u8 0, .int .u8 0] 43) = Y1 at *
          show wpAnyH _ _ _ _ _ _ _ (Act.put _ (some 21) _) _
          try simp only [Act.put, List.setIfInBounds_toArray, List.set_cons_zero, List.set_cons_succ]
          refine wpAnyH_ready (rs := [2, 6]) (by kernel_rfl) (by simp) ?_
          refine AllReadyH.cons rfl (fun K hK => ?_) ?_
          · rw [if_pos (by rfl)]
            refine wp_call_ret 11 _ _ rfl _ (by rfl) (by kernel_rfl) _ (K5.out _) (fun Y2 hB => ?_)
            have h2 := h1.trans (hB.mono h1.size)
            have r21_Y2 := CRow.below r21_Y1 hB r21_Y1.lt
            refine hK.out _ _ h2 (fun _ => ?_)
            clear hK K hB
            show wpAnyH _ _ _ _ _ _ _ (Act.put _ (some 69) _) _
            try simp only [Act.put, List.setIfInBounds_toArray, List.set_cons_zero, List.set_cons_succ]
            refine wpAnyH_ready (rs := [5, 6]) (by kernel_rfl) (by simp) ?_
            refine AllReadyH.cons rfl (fun K hK => ?_) ?_
            · rw [if_pos (by rfl)]
              refine wp_call_ret 17 _ _ rfl _ (by rfl) (by kernel_rfl) _ (K6.out _) (fun Y3 hB => ?_)
              have h3 := h2.trans (hB.mono h2.size)
              have r21_Y3 := CRow.below r21_Y2 hB r21_Y2.lt
              refine hK.out _ _ h3 (fun _ => ?_)
              clear hK K hB
              show wpAnyH _ _ _ _ _ _ _ (Act.put _ (some 72) _) _
              try simp only [Act.put, List.setIfInBounds_toArray, List.set_cons_zero, List.set_cons_succ]
              refine only_ 6 rfl (by kernel_rfl) (by rfl) (fun K hK => ?_)
              refine wp_of_run (w' := Y3.alloc (.cells #[.int .u8 0, .int .u8 0] 23)) (.pointer (some ⟨Y3.heap.size, 0, none⟩)) (by kernel_rfl) ?_
              have h4 := h3.alloc h3.size (.cells #[.int .u8 0, .int .u8 0] 23)
              have r20_Y4 : CRow _ Y3.heap.size 23 ⟨0, 0⟩ := alloc_at Y3 (.cells #[.int .u8 0, .int .u8 0] 23)
              have b20 := h3.size
              have r21_Y4 := CRow.below r21_Y3 ((Below.refl _ _).alloc (Nat.le_refl _) (.cells #[.int .u8 0, .int .u8 0] 23)) r21_Y3.lt
              have ne := Nat.ne_of_lt r21_Y3.lt
              refine hK.out _ _ h4 (fun _ => ?_)
              clear hK K
              generalize Y3.alloc (.cells #[.int .u8 0, .int .u8 0] 23) = Y4 at *
              show wpAnyH _ _ _ _ _ _ _ (Act.put _ (some 20) _) _
              try simp only [Act.put, List.setIfInBounds_toArray, List.set_cons_zero, List.set_cons_succ]
              refine only_ 8 rfl (by kernel_rfl) (by rfl) (fun K hK => ?_)
              refine wp_store_c2 23 _ _ rfl (Y3.heap.size) rfl rfl (by kernel_rfl) 23 r20_Y4 ?_
              intro Y5 HN HO HB
              have h5 := h4.trans (HB.out.mono b20)
              have r20_Y5 := HN.out
              have r21_Y5 := CRow.other r21_Y4 HO.out ne
              refine hK.out _ _ h5 (fun _ => ?_)
              clear hK K HN HO HB
              try simp only [Act.put]
              refine only_ 9 rfl (by kernel_rfl) (by rfl) (fun K hK => ?_)
              refine wp_store_c2 43 _ _ rfl (Y0.heap.size) rfl rfl (by kernel_rfl) 43 r21_Y5 ?_
              intro Y6 HN HO HB
              have h6 := h5.trans (HB.out.mono b21)
              have r21_Y6 := HN.out
              have r20_Y6 := CRow.other r20_Y5 HO.out ne.symm
              refine hK.out _ _ h6 (fun _ => ?_)
              clear hK K HN HO HB
              try simp only [Act.put]
              refine wpAnyH_done (by kernel_rfl) ?_ _
              refine NoPanic.normal ?_
              go_wp2
              go_meet
              case rel => exact ⟨_, _, _, rfl, rfl, rfl, r20_Y6, r21_Y6, h6⟩
            refine AllReadyH.cons rfl (fun K hK => ?_) ?_
            · rw [if_pos (by rfl)]
              refine wp_of_run (w' := Y2.alloc (.cells #[.int .u8 0, .int .u8 0] 23)) (.pointer (some ⟨Y2.heap.size, 0, none⟩)) (by kernel_rfl) ?_
              have h3 := h2.alloc h2.size (.cells #[.int .u8 0, .int .u8 0] 23)
              have r20_Y3 : CRow _ Y2.heap.size 23 ⟨0, 0⟩ := alloc_at Y2 (.cells #[.int .u8 0, .int .u8 0] 23)
              have b20 := h2.size
              have r21_Y3 := CRow.below r21_Y2 ((Below.refl _ _).alloc (Nat.le_refl _) (.cells #[.int .u8 0, .int .u8 0] 23)) r21_Y2.lt
              have ne := Nat.ne_of_lt r21_Y2.lt
              refine hK.out _ _ h3 (fun _ => ?_)
              clear hK K
              generalize Y2.alloc (.cells #[.int .u8 0, .int .u8 0] 23) = Y3 at *
              show wpAnyH _ _ _ _ _ _ _ (Act.put _ (some 20) _) _
              try simp only [Act.put, List.setIfInBounds_toArray, List.set_cons_zero, List.set_cons_succ]
              refine only_ 5 rfl (by kernel_rfl) (by rfl) (fun K hK => ?_)
              refine wp_call_ret 17 _ _ rfl _ (by rfl) (by kernel_rfl) _ (K6.out _) (fun Y4 hB => ?_)
              have h4 := h3.trans (hB.mono h3.size)
              have r21_Y4 := CRow.below r21_Y3 hB r21_Y3.lt
              have r20_Y4 := CRow.below r20_Y3 hB r20_Y3.lt
              refine hK.out _ _ h4 (fun _ => ?_)
              clear hK K hB
              show wpAnyH _ _ _ _ _ _ _ (Act.put _ (some 72) _) _
              try simp only [Act.put, List.setIfInBounds_toArray, List.set_cons_zero, List.set_cons_succ]
              refine only_ 8 rfl (by kernel_rfl) (by rfl) (fun K hK => ?_)
              refine wp_store_c2 23 _ _ rfl (Y2.heap.size) rfl rfl (by kernel_rfl) 23 r20_Y4 ?_
              intro Y5 HN HO HB
              have h5 := h4.trans (HB.out.mono b20)
              have r20_Y5 := HN.out
              have r21_Y5 := CRow.other r21_Y4 HO.out ne
              refine hK.out _ _ h5 (fun _ => ?_)
              clear hK K HN HO HB
              try simp only [Act.put]
              refine only_ 9 rfl (by kernel_rfl) (by rfl) (fun K hK => ?_)
              refine wp_store_c2 43 _ _ rfl (Y0.heap.size) rfl rfl (by kernel_rfl) 43 r21_Y5 ?_
              intro Y6 HN HO HB
              have h6 := h5.trans (HB.out.mono b21)
              have r21_Y6 := HN.out
              have r20_Y6 := CRow.other r20_Y5 HO.out ne.symm
              refine hK.out _ _ h6 (fun _ => ?_)
              clear hK K HN HO HB
              try simp only [Act.put]
              refine wpAnyH_done (by kernel_rfl) ?_ _
              refine NoPanic.normal ?_
              go_wp2
              go_meet
              case rel => exact ⟨_, _, _, rfl, rfl, rfl, r20_Y6, r21_Y6, h6⟩
            exact AllReadyH.nil
          refine AllReadyH.cons rfl (fun K hK => ?_) ?_
          · rw [if_pos (by rfl)]
            refine wp_of_run (w' := Y1.alloc (.cells #[.int .u8 0, .int .u8 0] 23)) (.pointer (some ⟨Y1.heap.size, 0, none⟩)) (by kernel_rfl) ?_
            have h2 := h1.alloc h1.size (.cells #[.int .u8 0, .int .u8 0] 23)
            have r20_Y2 : CRow _ Y1.heap.size 23 ⟨0, 0⟩ := alloc_at Y1 (.cells #[.int .u8 0, .int .u8 0] 23)
            have b20 := h1.size
            have r21_Y2 := CRow.below r21_Y1 ((Below.refl _ _).alloc (Nat.le_refl _) (.cells #[.int .u8 0, .int .u8 0] 23)) r21_Y1.lt
            have ne := Nat.ne_of_lt r21_Y1.lt
            refine hK.out _ _ h2 (fun _ => ?_)
            clear hK K
            generalize Y1.alloc (.cells #[.int .u8 0, .int .u8 0] 23) = Y2 at *
            show wpAnyH _ _ _ _ _ _ _ (Act.put _ (some 20) _) _
            try simp only [Act.put, List.setIfInBounds_toArray, List.set_cons_zero, List.set_cons_succ]
            refine only_ 2 rfl (by kernel_rfl) (by rfl) (fun K hK => ?_)
            refine wp_call_ret 11 _ _ rfl _ (by rfl) (by kernel_rfl) _ (K5.out _) (fun Y3 hB => ?_)
            have h3 := h2.trans (hB.mono h2.size)
            have r21_Y3 := CRow.below r21_Y2 hB r21_Y2.lt
            have r20_Y3 := CRow.below r20_Y2 hB r20_Y2.lt
            refine hK.out _ _ h3 (fun _ => ?_)
            clear hK K hB
            show wpAnyH _ _ _ _ _ _ _ (Act.put _ (some 69) _) _
            try simp only [Act.put, List.setIfInBounds_toArray, List.set_cons_zero, List.set_cons_succ]
            refine only_ 5 rfl (by kernel_rfl) (by rfl) (fun K hK => ?_)
            refine wp_call_ret 17 _ _ rfl _ (by rfl) (by kernel_rfl) _ (K6.out _) (fun Y4 hB => ?_)
            have h4 := h3.trans (hB.mono h3.size)
            have r21_Y4 := CRow.below r21_Y3 hB r21_Y3.lt
            have r20_Y4 := CRow.below r20_Y3 hB r20_Y3.lt
            refine hK.out _ _ h4 (fun _ => ?_)
            clear hK K hB
            show wpAnyH _ _ _ _ _ _ _ (Act.put _ (some 72) _) _
            try simp only [Act.put, List.setIfInBounds_toArray, List.set_cons_zero, List.set_cons_succ]
            refine only_ 8 rfl (by kernel_rfl) (by rfl) (fun K hK => ?_)
            refine wp_store_c2 23 _ _ rfl (Y1.heap.size) rfl rfl (by kernel_rfl) 23 r20_Y4 ?_
            intro Y5 HN HO HB
            have h5 := h4.trans (HB.out.mono b20)
            have r20_Y5 := HN.out
            have r21_Y5 := CRow.other r21_Y4 HO.out ne
            refine hK.out _ _ h5 (fun _ => ?_)
            clear hK K HN HO HB
            try simp only [Act.put]
            refine only_ 9 rfl (by kernel_rfl) (by rfl) (fun K hK => ?_)
            refine wp_store_c2 43 _ _ rfl (Y0.heap.size) rfl rfl (by kernel_rfl) 43 r21_Y5 ?_
            intro Y6 HN HO HB
            have h6 := h5.trans (HB.out.mono b21)
            have r21_Y6 := HN.out
            have r20_Y6 := CRow.other r20_Y5 HO.out ne.symm
            refine hK.out _ _ h6 (fun _ => ?_)
            clear hK K HN HO HB
            try simp only [Act.put]
            refine wpAnyH_done (by kernel_rfl) ?_ _
            refine NoPanic.normal ?_
            go_wp2
            go_meet
            case rel => exact ⟨_, _, _, rfl, rfl, rfl, r20_Y6, r21_Y6, h6⟩
          exact AllReadyH.nil
        exact AllReadyH.nil
      case rest =>
        obtain ⟨w6, b20, b21, rfl, rfl, rfl, q1, q2, q3⟩ := hcut
        have RC_w6 : Hid (CRow w6 gc 23 (c)) := Lib.hid (CRow.below RC_w5.out q3 RC_w5.out.lt)
        have RP_w6 : Hid (PRow w6 gp (ps)) := Lib.hid (PRow.below RP_w5.out q3 RP_w5.out.lt)
        have RA_w6 : Hid (VRow w6 ga 26 (asc lv cr mk)) := Lib.hid (VRow.below RA_w5.out q3 RA_w5.out.lt)
        have RR_w6 : Hid (CRow w6 gr 43 (c)) := Lib.hid (CRow.below RR_w5.out q3 RR_w5.out.lt)
        have RX_w6 : Hid (CRow w6 b16 23 (cw)) := Lib.hid (CRow.below RX_w5.out q3 RX_w5.out.lt)
        have RY_w6 : Hid (CRow w6 b17 43 (cw)) := Lib.hid (CRow.below RY_w5.out q3 RY_w5.out.lt)
        have RS_w6 : Hid (CRow w6 b18 23 (cq)) := Lib.hid (CRow.below RS_w5.out q3 RS_w5.out.lt)
        have RT_w6 : Hid (CRow w6 b19 43 (cq)) := Lib.hid (CRow.below RT_w5.out q3 RT_w5.out.lt)
        have RK_w6 : Hid (CRow w6 b20 23 (ct)) := Lib.hid q1
        have RL_w6 : Hid (CRow w6 b21 43 (ct)) := Lib.hid q2
        have BB_w6 : Hid (Below w.heap.size w w6) := Lib.hid (BB_w5.out.trans (q3.mono BB_w5.out.size))
        clear q1 q2 q3 RC_w5 RP_w5 RA_w5 RR_w5 RX_w5 RY_w5 RS_w5 RT_w5 BB_w5
        go_upto_region 7 with fail
        refine wp_region_noPanic ?_
        refine wp_region_held_drew (S := fun X => Below w6.heap.size w6 X) (by kernel_rfl) ((Below.refl _ w6).drew) (fun hHeld => ?_)
        refine' take_ 0 rfl (by kernel_rfl) (by kernel_rfl) (by kernel_rfl) (fun _ _ _ h => h) (by rfl) (fun wS hSw => ?_) hHeld ?_
        rotate_left
        focus (go_simp; (try with_reducible rfl); done)
        try simp only [Act.put, List.setIfInBounds_toArray, List.set_cons_zero, List.set_cons_succ]
        refine' take_ 1 rfl (by kernel_rfl) (by kernel_rfl) (by kernel_rfl) (fun _ _ _ h => h) (by rfl) (fun wS hSw => ?_) hHeld ?_
        rotate_left
        focus (go_simp; (try with_reducible rfl); done)
        try simp only [Act.put, List.setIfInBounds_toArray, List.set_cons_zero, List.set_cons_succ]
        refine' take_ 2 rfl (by kernel_rfl) (by kernel_rfl) (by kernel_rfl) (fun _ _ _ h => h) (by rfl) (fun wS hSw => ?_) hHeld ?_
        rotate_left
        focus (go_simp; (try with_reducible rfl); done)
        try simp only [Act.put, List.setIfInBounds_toArray, List.set_cons_zero, List.set_cons_succ]
        refine' take_ 3 rfl (by kernel_rfl) (by kernel_rfl) (by kernel_rfl) (fun _ _ _ h => h) (by rfl) (fun wS hSw => ?_) hHeld ?_
        rotate_left
        focus (go_simp; (try with_reducible rfl); done)
        try simp only [Act.put, List.setIfInBounds_toArray, List.set_cons_zero, List.set_cons_succ]
        refine' take_ 4 rfl (by kernel_rfl) (by kernel_rfl) (by kernel_rfl) (fun _ _ _ h => h) (by rfl) (fun wS hSw => ?_) hHeld ?_
        rotate_left
        focus (go_simp; (try with_reducible rfl); done)
        try simp only [Act.put, List.setIfInBounds_toArray, List.set_cons_zero, List.set_cons_succ]
        refine' take_ 5 rfl (by kernel_rfl) (by kernel_rfl) (by kernel_rfl) (fun _ _ _ h => h) (by rfl) (fun wS hSw => ?_) hHeld ?_
        rotate_left
        focus (go_simp; (try with_reducible rfl); done)
        try simp only [Act.put, List.setIfInBounds_toArray, List.set_cons_zero, List.set_cons_succ]
        refine' take_ 6 rfl (by kernel_rfl) (by kernel_rfl) (by kernel_rfl) (fun _ _ _ h => h) (by rfl) (fun wS hSw => ?_) hHeld ?_
        rotate_left
        focus (go_simp; (try with_reducible rfl); done)
        try simp only [Act.put, List.setIfInBounds_toArray, List.set_cons_zero, List.set_cons_succ]
        refine' take_ 7 rfl (by kernel_rfl) (by kernel_rfl) (by kernel_rfl) (fun _ _ _ h => h) (by rfl) (fun wS hSw => ?_) hHeld ?_
        rotate_left
        focus (go_simp; (try with_reducible rfl); done)
        try simp only [Act.put, List.setIfInBounds_toArray, List.set_cons_zero, List.set_cons_succ]
        refine' take_ 8 rfl (by kernel_rfl) (by kernel_rfl) (by kernel_rfl) (fun _ _ _ h => h) (by rfl) (fun wS hSw => ?_) hHeld ?_
        rotate_left
        focus (go_simp; (try with_reducible rfl); done)
        try simp only [Act.put, List.setIfInBounds_toArray, List.set_cons_zero, List.set_cons_succ]
        refine' take_ 9 rfl (by kernel_rfl) (by kernel_rfl) (by kernel_rfl) (fun _ _ _ h => h) (by rfl) (fun wS hSw => ?_) hHeld ?_
        rotate_left
        focus (go_simp; (try with_reducible rfl); done)
        try simp only [Act.put, List.setIfInBounds_toArray, List.set_cons_zero, List.set_cons_succ]
        refine' take_ 10 rfl (by kernel_rfl) (by kernel_rfl) (by kernel_rfl) (fun _ _ _ h => h) (by rfl) (fun wS hSw => ?_) hHeld ?_
        rotate_left
        focus (have s0 := (RX_w6.out.below hSw RX_w6.out.lt).c0; clear hSw; go_simp; (try with_reducible rfl); done)
        try simp only [Act.put, List.setIfInBounds_toArray, List.set_cons_zero, List.set_cons_succ]
        refine' take_ 11 rfl (by kernel_rfl) (by kernel_rfl) (by kernel_rfl) (fun _ _ _ h => h) (by rfl) (fun wS hSw => ?_) hHeld ?_
        rotate_left
        focus (go_simp; (try with_reducible rfl); done)
        try simp only [Act.put, List.setIfInBounds_toArray, List.set_cons_zero, List.set_cons_succ]
        refine' take_ 12 rfl (by kernel_rfl) (by kernel_rfl) (by kernel_rfl) (fun _ _ _ h => h) (by rfl) (fun wS hSw => ?_) hHeld ?_
        rotate_left
        focus (have s0 := (RY_w6.out.below hSw RY_w6.out.lt).c0; clear hSw; go_simp; (try with_reducible rfl); done)
        try simp only [Act.put, List.setIfInBounds_toArray, List.set_cons_zero, List.set_cons_succ]
        refine' take_ 13 rfl (by kernel_rfl) (by kernel_rfl) (by kernel_rfl) (fun _ _ _ h => h) (by rfl) (fun wS hSw => ?_) hHeld ?_
        rotate_left
        focus (go_simp; (try with_reducible rfl); done)
        try simp only [Act.put, List.setIfInBounds_toArray, List.set_cons_zero, List.set_cons_succ]
        refine' take_ 14 rfl (by kernel_rfl) (by kernel_rfl) (by kernel_rfl) (fun _ _ _ h => h) (by rfl) (fun wS hSw => ?_) hHeld ?_
        rotate_left
        focus (go_simp; (try with_reducible rfl); done)
        try simp only [Act.put, List.setIfInBounds_toArray, List.set_cons_zero, List.set_cons_succ]
        refine' take_ 15 rfl (by kernel_rfl) (by kernel_rfl) (by kernel_rfl) (fun _ _ _ h => h) (by rfl) (fun wS hSw => ?_) hHeld ?_
        rotate_left
        focus (go_simp; (try with_reducible rfl); done)
        try simp only [Act.put, List.setIfInBounds_toArray, List.set_cons_zero, List.set_cons_succ]
        refine' take_ 16 rfl (by kernel_rfl) (by kernel_rfl) (by kernel_rfl) (fun _ _ _ h => h) (by rfl) (fun wS hSw => ?_) hHeld ?_
        rotate_left
        focus (go_simp; (try with_reducible rfl); done)
        try simp only [Act.put, List.setIfInBounds_toArray, List.set_cons_zero, List.set_cons_succ]
        refine' take_ 17 rfl (by kernel_rfl) (by kernel_rfl) (by kernel_rfl) (fun _ _ _ h => h) (by rfl) (fun wS hSw => ?_) hHeld ?_
        rotate_left
        focus (have s0 := (RX_w6.out.below hSw RX_w6.out.lt).c1; clear hSw; go_simp; (try with_reducible rfl); done)
        try simp only [Act.put, List.setIfInBounds_toArray, List.set_cons_zero, List.set_cons_succ]
        refine' take_ 18 rfl (by kernel_rfl) (by kernel_rfl) (by kernel_rfl) (fun _ _ _ h => h) (by rfl) (fun wS hSw => ?_) hHeld ?_
        rotate_left
        focus (go_simp; (try with_reducible rfl); done)
        try simp only [Act.put, List.setIfInBounds_toArray, List.set_cons_zero, List.set_cons_succ]
        refine' take_ 19 rfl (by kernel_rfl) (by kernel_rfl) (by kernel_rfl) (fun _ _ _ h => h) (by rfl) (fun wS hSw => ?_) hHeld ?_
        rotate_left
        focus (have s0 := (RY_w6.out.below hSw RY_w6.out.lt).c1; clear hSw; go_simp; (try with_reducible rfl); done)
        try simp only [Act.put, List.setIfInBounds_toArray, List.set_cons_zero, List.set_cons_succ]
        refine' take_ 20 rfl (by kernel_rfl) (by kernel_rfl) (by kernel_rfl) (fun _ _ _ h => h) (by rfl) (fun wS hSw => ?_) hHeld ?_
        rotate_left
        focus (go_simp; (try with_reducible rfl); done)
        try simp only [Act.put, List.setIfInBounds_toArray, List.set_cons_zero, List.set_cons_succ]
        refine' take_ 21 rfl (by kernel_rfl) (by kernel_rfl) (by kernel_rfl) (fun _ _ _ h => h) (by rfl) (fun wS hSw => ?_) hHeld ?_
        rotate_left
        focus (go_simp; (try with_reducible rfl); done)
        try simp only [Act.put, List.setIfInBounds_toArray, List.set_cons_zero, List.set_cons_succ]
        refine' take_ 22 rfl (by kernel_rfl) (by kernel_rfl) (by kernel_rfl) (fun _ _ _ h => h) (by rfl) (fun wS hSw => ?_) hHeld ?_
        rotate_left
        focus (go_simp; (try with_reducible rfl); done)
        try simp only [Act.put, List.setIfInBounds_toArray, List.set_cons_zero, List.set_cons_succ]
        refine' take_ 23 rfl (by kernel_rfl) (by kernel_rfl) (by kernel_rfl) (fun _ _ _ h => h) (by rfl) (fun wS hSw => ?_) hHeld ?_
        rotate_left
        focus (go_simp; (try with_reducible rfl); done)
        try simp only [Act.put, List.setIfInBounds_toArray, List.set_cons_zero, List.set_cons_succ]
        refine' take_ 24 rfl (by kernel_rfl) (by kernel_rfl) (by kernel_rfl) (fun _ _ _ h => h) (by rfl) (fun wS hSw => ?_) hHeld ?_
        rotate_left
        focus (have s0 := (RS_w6.out.below hSw RS_w6.out.lt).c0; clear hSw; go_simp; (try with_reducible rfl); done)
        try simp only [Act.put, List.setIfInBounds_toArray, List.set_cons_zero, List.set_cons_succ]
        refine' take_ 25 rfl (by kernel_rfl) (by kernel_rfl) (by kernel_rfl) (fun _ _ _ h => h) (by rfl) (fun wS hSw => ?_) hHeld ?_
        rotate_left
        focus (go_simp; (try with_reducible rfl); done)
        try simp only [Act.put, List.setIfInBounds_toArray, List.set_cons_zero, List.set_cons_succ]
        refine' take_ 26 rfl (by kernel_rfl) (by kernel_rfl) (by kernel_rfl) (fun _ _ _ h => h) (by rfl) (fun wS hSw => ?_) hHeld ?_
        rotate_left
        focus (have s0 := (RT_w6.out.below hSw RT_w6.out.lt).c0; clear hSw; go_simp; (try with_reducible rfl); done)
        try simp only [Act.put, List.setIfInBounds_toArray, List.set_cons_zero, List.set_cons_succ]
        refine' take_ 27 rfl (by kernel_rfl) (by kernel_rfl) (by kernel_rfl) (fun _ _ _ h => h) (by rfl) (fun wS hSw => ?_) hHeld ?_
        rotate_left
        focus (go_simp; (try with_reducible rfl); done)
        try simp only [Act.put, List.setIfInBounds_toArray, List.set_cons_zero, List.set_cons_succ]
        refine' take_ 28 rfl (by kernel_rfl) (by kernel_rfl) (by kernel_rfl) (fun _ _ _ h => h) (by rfl) (fun wS hSw => ?_) hHeld ?_
        rotate_left
        focus (go_simp; (try with_reducible rfl); done)
        try simp only [Act.put, List.setIfInBounds_toArray, List.set_cons_zero, List.set_cons_succ]
        refine' take_ 29 rfl (by kernel_rfl) (by kernel_rfl) (by kernel_rfl) (fun _ _ _ h => h) (by rfl) (fun wS hSw => ?_) hHeld ?_
        rotate_left
        focus (go_simp; (try with_reducible rfl); done)
        try simp only [Act.put, List.setIfInBounds_toArray, List.set_cons_zero, List.set_cons_succ]
        refine' take_ 30 rfl (by kernel_rfl) (by kernel_rfl) (by kernel_rfl) (fun _ _ _ h => h) (by rfl) (fun wS hSw => ?_) hHeld ?_
        rotate_left
        focus (go_simp; (try with_reducible rfl); done)
        try simp only [Act.put, List.setIfInBounds_toArray, List.set_cons_zero, List.set_cons_succ]
        refine' take_ 31 rfl (by kernel_rfl) (by kernel_rfl) (by kernel_rfl) (fun _ _ _ h => h) (by rfl) (fun wS hSw => ?_) hHeld ?_
        rotate_left
        focus (have s0 := (RS_w6.out.below hSw RS_w6.out.lt).c1; clear hSw; go_simp; (try with_reducible rfl); done)
        try simp only [Act.put, List.setIfInBounds_toArray, List.set_cons_zero, List.set_cons_succ]
        refine' take_ 32 rfl (by kernel_rfl) (by kernel_rfl) (by kernel_rfl) (fun _ _ _ h => h) (by rfl) (fun wS hSw => ?_) hHeld ?_
        rotate_left
        focus (go_simp; (try with_reducible rfl); done)
        try simp only [Act.put, List.setIfInBounds_toArray, List.set_cons_zero, List.set_cons_succ]
        refine' take_ 33 rfl (by kernel_rfl) (by kernel_rfl) (by kernel_rfl) (fun _ _ _ h => h) (by rfl) (fun wS hSw => ?_) hHeld ?_
        rotate_left
        focus (have s0 := (RT_w6.out.below hSw RT_w6.out.lt).c1; clear hSw; go_simp; (try with_reducible rfl); done)
        try simp only [Act.put, List.setIfInBounds_toArray, List.set_cons_zero, List.set_cons_succ]
        refine' take_ 34 rfl (by kernel_rfl) (by kernel_rfl) (by kernel_rfl) (fun _ _ _ h => h) (by rfl) (fun wS hSw => ?_) hHeld ?_
        rotate_left
        focus (go_simp; (try with_reducible rfl); done)
        try simp only [Act.put, List.setIfInBounds_toArray, List.set_cons_zero, List.set_cons_succ]
        refine' take_ 35 rfl (by kernel_rfl) (by kernel_rfl) (by kernel_rfl) (fun _ _ _ h => h) (by rfl) (fun wS hSw => ?_) hHeld ?_
        rotate_left
        focus (go_simp; (try with_reducible rfl); done)
        try simp only [Act.put, List.setIfInBounds_toArray, List.set_cons_zero, List.set_cons_succ]
        refine' take_ 36 rfl (by kernel_rfl) (by kernel_rfl) (by kernel_rfl) (fun _ _ _ h => h) (by rfl) (fun wS hSw => ?_) hHeld ?_
        rotate_left
        focus (go_simp; (try with_reducible rfl); done)
        try simp only [Act.put, List.setIfInBounds_toArray, List.set_cons_zero, List.set_cons_succ]
        refine' take_ 37 rfl (by kernel_rfl) (by kernel_rfl) (by kernel_rfl) (fun _ _ _ h => h) (by rfl) (fun wS hSw => ?_) hHeld ?_
        rotate_left
        focus (go_simp; (try with_reducible rfl); done)
        try simp only [Act.put, List.setIfInBounds_toArray, List.set_cons_zero, List.set_cons_succ]
        refine' take_ 38 rfl (by kernel_rfl) (by kernel_rfl) (by kernel_rfl) (fun _ _ _ h => h) (by rfl) (fun wS hSw => ?_) hHeld ?_
        rotate_left
        focus (have s0 := (RK_w6.out.below hSw RK_w6.out.lt).c0; clear hSw; go_simp; (try with_reducible rfl); done)
        try simp only [Act.put, List.setIfInBounds_toArray, List.set_cons_zero, List.set_cons_succ]
        refine' take_ 39 rfl (by kernel_rfl) (by kernel_rfl) (by kernel_rfl) (fun _ _ _ h => h) (by rfl) (fun wS hSw => ?_) hHeld ?_
        rotate_left
        focus (go_simp; (try with_reducible rfl); done)
        try simp only [Act.put, List.setIfInBounds_toArray, List.set_cons_zero, List.set_cons_succ]
        refine' take_ 40 rfl (by kernel_rfl) (by kernel_rfl) (by kernel_rfl) (fun _ _ _ h => h) (by rfl) (fun wS hSw => ?_) hHeld ?_
        rotate_left
        focus (have s0 := (RL_w6.out.below hSw RL_w6.out.lt).c0; clear hSw; go_simp; (try with_reducible rfl); done)
        try simp only [Act.put, List.setIfInBounds_toArray, List.set_cons_zero, List.set_cons_succ]
        refine' take_ 41 rfl (by kernel_rfl) (by kernel_rfl) (by kernel_rfl) (fun _ _ _ h => h) (by rfl) (fun wS hSw => ?_) hHeld ?_
        rotate_left
        focus (go_simp; (try with_reducible rfl); done)
        try simp only [Act.put, List.setIfInBounds_toArray, List.set_cons_zero, List.set_cons_succ]
        refine' take_ 42 rfl (by kernel_rfl) (by kernel_rfl) (by kernel_rfl) (fun _ _ _ h => h) (by rfl) (fun wS hSw => ?_) hHeld ?_
        rotate_left
        focus (go_simp; (try with_reducible rfl); done)
        try simp only [Act.put, List.setIfInBounds_toArray, List.set_cons_zero, List.set_cons_succ]
        refine' take_ 43 rfl (by kernel_rfl) (by kernel_rfl) (by kernel_rfl) (fun _ _ _ h => h) (by rfl) (fun wS hSw => ?_) hHeld ?_
        rotate_left
        focus (go_simp; (try with_reducible rfl); done)
        try simp only [Act.put, List.setIfInBounds_toArray, List.set_cons_zero, List.set_cons_succ]
        refine' take_ 44 rfl (by kernel_rfl) (by kernel_rfl) (by kernel_rfl) (fun _ _ _ h => h) (by rfl) (fun wS hSw => ?_) hHeld ?_
        rotate_left
        focus (go_simp; (try with_reducible rfl); done)
        try simp only [Act.put, List.setIfInBounds_toArray, List.set_cons_zero, List.set_cons_succ]
        refine' take_ 45 rfl (by kernel_rfl) (by kernel_rfl) (by kernel_rfl) (fun _ _ _ h => h) (by rfl) (fun wS hSw => ?_) hHeld ?_
        rotate_left
        focus (have s0 := (RK_w6.out.below hSw RK_w6.out.lt).c1; clear hSw; go_simp; (try with_reducible rfl); done)
        try simp only [Act.put, List.setIfInBounds_toArray, List.set_cons_zero, List.set_cons_succ]
        refine' take_ 46 rfl (by kernel_rfl) (by kernel_rfl) (by kernel_rfl) (fun _ _ _ h => h) (by rfl) (fun wS hSw => ?_) hHeld ?_
        rotate_left
        focus (go_simp; (try with_reducible rfl); done)
        try simp only [Act.put, List.setIfInBounds_toArray, List.set_cons_zero, List.set_cons_succ]
        refine' take_ 47 rfl (by kernel_rfl) (by kernel_rfl) (by kernel_rfl) (fun _ _ _ h => h) (by rfl) (fun wS hSw => ?_) hHeld ?_
        rotate_left
        focus (have s0 := (RL_w6.out.below hSw RL_w6.out.lt).c1; clear hSw; go_simp; (try with_reducible rfl); done)
        try simp only [Act.put, List.setIfInBounds_toArray, List.set_cons_zero, List.set_cons_succ]
        refine' take_ 48 rfl (by kernel_rfl) (by kernel_rfl) (by kernel_rfl) (fun _ _ _ h => h) (by rfl) (fun wS hSw => ?_) hHeld ?_
        rotate_left
        focus (go_simp; (try with_reducible rfl); done)
        try simp only [Act.put, List.setIfInBounds_toArray, List.set_cons_zero, List.set_cons_succ]
        refine' take_ 49 rfl (by kernel_rfl) (by kernel_rfl) (by kernel_rfl) (fun _ _ _ h => h) (by rfl) (fun wS hSw => ?_) hHeld ?_
        rotate_left
        focus (go_simp; (try with_reducible rfl); done)
        try simp only [Act.put, List.setIfInBounds_toArray, List.set_cons_zero, List.set_cons_succ]
        refine' take_ 50 rfl (by kernel_rfl) (by kernel_rfl) (by kernel_rfl) (fun _ _ _ h => h) (by rfl) (fun wS hSw => ?_) hHeld ?_
        rotate_left
        focus (go_simp; (try with_reducible rfl); done)
        try simp only [Act.put, List.setIfInBounds_toArray, List.set_cons_zero, List.set_cons_succ]
        refine' take_ 51 rfl (by kernel_rfl) (by kernel_rfl) (by kernel_rfl) (fun _ _ _ h => h) (by rfl) (fun wS hSw => run_load_c wS 23 _ gc rfl _ Try.underlying23 (by kernel_rfl) 23 (RC_w6.out.below hSw RC_w6.out.lt) _ _ _ _ _) hHeld ?_
        try simp only [Act.put, List.setIfInBounds_toArray, List.set_cons_zero, List.set_cons_succ]
        refine' take_ 52 rfl (by kernel_rfl) (by kernel_rfl) (by kernel_rfl) (fun _ _ _ h => h) (by rfl) (fun wS hSw => ?_) hHeld ?_
        rotate_left
        focus (go_simp; (try with_reducible rfl); done)
        try simp only [Act.put, List.setIfInBounds_toArray, List.set_cons_zero, List.set_cons_succ]
        refine' take_ 54 rfl (by kernel_rfl) (by kernel_rfl) (by kernel_rfl) (fun _ _ _ h => h) (by rfl) (fun wS hSw => run_load_c wS 43 _ gr rfl _ Try.underlying43 (by kernel_rfl) 43 (RR_w6.out.below hSw RR_w6.out.lt) _ _ _ _ _) hHeld ?_
        try simp only [Act.put, List.setIfInBounds_toArray, List.set_cons_zero, List.set_cons_succ]
        refine' take_ 55 rfl (by kernel_rfl) (by kernel_rfl) (by kernel_rfl) (fun _ _ _ h => h) (by rfl) (fun wS hSw => ?_) hHeld ?_
        rotate_left
        focus (go_simp; (try with_reducible rfl); done)
        try simp only [Act.put, List.setIfInBounds_toArray, List.set_cons_zero, List.set_cons_succ]
        refine only_ 53 rfl (by kernel_rfl) (by rfl) (fun K hK => ?_)
        go_simp
        (with_reducible refine (K7.out _).mono ?_)
        rintro e x1 ⟨rfl, hB⟩
        go_simp
        refine hK.out _ _ (hHeld.trans (hB.mono hHeld.size)) (fun hHeld2 => ?_)
        clear hK K hHeld
        have hHeld := hHeld2
        clear hHeld2
        try simp only [Act.put, List.setIfInBounds_toArray, List.set_cons_zero, List.set_cons_succ]
        clear hB
        refine only_ 56 rfl (by kernel_rfl) (by rfl) (fun K hK => ?_)
        go_simp
        (with_reducible refine (K8.out _).mono ?_)
        rintro e x2 ⟨rfl, hB⟩
        go_simp
        refine hK.out _ _ (hHeld.trans (hB.mono hHeld.size)) (fun hHeld2 => ?_)
        clear hK K hHeld
        have hHeld := hHeld2
        clear hHeld2
        try simp only [Act.put, List.setIfInBounds_toArray, List.set_cons_zero, List.set_cons_succ]
        clear hB
        refine' take_ 57 rfl (by kernel_rfl) (by kernel_rfl) (by kernel_rfl) (fun _ _ _ h => h) (by rfl) (fun wS hSw => ?_) hHeld ?_
        rotate_left
        focus (go_simp; (try with_reducible rfl); done)
        try simp only [Act.put, List.setIfInBounds_toArray, List.set_cons_zero, List.set_cons_succ]
        refine' take_ 58 rfl (by kernel_rfl) (by kernel_rfl) (by kernel_rfl) (fun _ _ _ h => h) (by rfl) (fun wS hSw => ?_) hHeld ?_
        rotate_left
        focus (go_simp; (try with_reducible rfl); done)
        try simp only [Act.put, List.setIfInBounds_toArray, List.set_cons_zero, List.set_cons_succ]
        refine' take_ 59 rfl (by kernel_rfl) (by kernel_rfl) (by kernel_rfl) (fun _ _ _ h => h) (by rfl) (fun wS hSw => ?_) hHeld ?_
        rotate_left
        focus (go_simp; (try with_reducible rfl); done)
        try simp only [Act.put, List.setIfInBounds_toArray, List.set_cons_zero, List.set_cons_succ]
        refine wpAnyH_done (by kernel_rfl) ?_ _
        refine NoPanic.normal ?_
        go_wp2
        go_ret
        exact ⟨rfl, BB_w6.out.trans (hHeld.mono BB_w6.out.size)⟩
end Go.Proofs.Ytcdomelfmkbloaa
