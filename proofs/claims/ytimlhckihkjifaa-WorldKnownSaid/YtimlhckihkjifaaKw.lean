/-
  WorldKnown's walk, if the program's functions are what they must be: true. Made by wip/genworldref.py.
-/
import Derived.Test.YtimlhckihkjifaaKm
namespace Go.Proofs.Ytimlhckihkjifaa
open Go.RowKit
set_option linter.unusedVariables false
set_option linter.unusedSimpArgs false
set_option maxHeartbeats 16000000 in
set_option maxRecDepth 100000 in
theorem known_walk (H : WorldOk) {PL : PlT} (HP : PlayerOk PL) (HN : PlayerNil) (w : World) :
    Calls Try.prog 6 #[] w fun e w' => e = .returned (.bool true) ∧ Below w.heap.size w w' := by
  have KW := Lib.hid (works_any H)
  have HC := Lib.hid H.check
  have HNW := Lib.hid HP.new
  have HBD := Lib.hid HN.bad
  go_enter Try.func6, Try.ntmps6
  go_upto_region 4 with (go_at_call 15; with_reducible refine (KW.out _).mono ?_; rintro e w1 ⟨rfl, hB⟩; have BB_1 := Lib.hid hB; clear hB)
  go_upto_block 0 with fail
  refine name_nine (Q := fun X => Code.wp _ _ _ _ X) ?_
  intro W0 hq hB0 hz
  have HT0 := Lib.hid (tab_all hq)
  have BB_0 := Lib.hid (BB_1.out.trans (hB0.mono BB_1.out.size))
  obtain ⟨gT, hgT⟩ : ∃ g, w1.heap.size + 8 = g := ⟨_, rfl⟩
  obtain ⟨gB, hgB⟩ : ∃ g, w1.heap.size + 9 = g := ⟨_, rfl⟩
  have hgt : gT < gB := by omega
  have HGT := Lib.hid hgt
  rw [hgT, hgB] at HT0
  rw [hgB] at hz
  rw [show w1.heap.size + 1 + 1 + 1 + 1 + 1 + 1 + 1 + 1 = gT from hgT]
  have HZ := Lib.hid hz
  clear hq hB0 hz hgT hgB hgt BB_1
  go_wp2_with fail
  go_loopw [46] (fun iv wr => ∃ k : Nat, k ≤ 9 ∧ iv = .int .i64 (k : Int) ∧ Below gB W0 wr ∧ Below w.heap.size w wr) (fun iv _ => 9 - (intOf iv).toNat)
  case atStart => exact ⟨0, by omega, rfl, Below.refl _ _, BB_0.out⟩
  case round =>
    obtain ⟨k, hk, rfl, q1, q2⟩ := hrel
    obtain ⟨u, hu⟩ : ∃ W, wr = W := ⟨_, rfl⟩
    rw [hu] at q1 q2 ⊢
    have BT_u := Lib.hid q1
    have BB_u := Lib.hid q2
    clear q1 q2 hu BB_0
    by_cases hlt : k < 9
    · obtain ⟨A, l, hT⟩ := HT0.out k hlt
      have T_u := Lib.hid (hT.below BT_u.out (Nat.le_refl _) HGT.out)
      have SB_u : Hid (gB ≤ u.heap.size) := Lib.hid (Nat.le_trans HZ.out BT_u.out.size)
      have HLT := Lib.hid hlt
      have d1 : (k : Int) < 9 := by omega
      have hl2 := hT.len
      clear hT
      have KC : Hid (∀ W : World, Rd W gB A l → gB ≤ W.heap.size → Calls Try.prog 17 #[.slice A l.length l.length] W fun e w' => e = .returned (.tuple #[.int .i64 (chkL l).1, .int .i64 ((chkL l).2 : Nat)]) ∧ Below W.heap.size W w') := Lib.hid (fun W h h2 => HC.out A _ gB l W h h2)
      have KN : Hid ((chkL l).2 = 0 → ∀ W : World, Rd W gB A l → gB ≤ W.heap.size → Calls Try.prog 9 #[.slice A l.length l.length] W fun e w' => (∃ a, e = .returned (.pointer (some a))) ∧ Below W.heap.size W w') := Lib.hid (fun h W h1 h2 => (HNW.out W _ A _ l (h1.toS h2) h (by omega)).mono fun e w' q => ⟨⟨_, q.1.choose_spec.choose_spec.choose_spec.1⟩, q.2⟩)
      have KB : Hid ((chkL l).2 ≠ 0 → ∀ W : World, Rd W gB A l → gB ≤ W.heap.size → Calls Try.prog 9 #[.slice A l.length l.length] W fun e w' => e = .returned (.pointer none) ∧ Below W.heap.size W w') := Lib.hid (fun h W h1 h2 => HBD.out W A _ gB l h1 h2 h (by omega))
      have CE := Lib.hid T_u.out.cells
      have RD_u := Lib.hid T_u.out.rd
      obtain ⟨ci, hci⟩ : ∃ z, (chkL l).1 = z := ⟨_, rfl⟩
      obtain ⟨ce, hce⟩ : ∃ z, (chkL l).2 = z := ⟨_, rfl⟩
      obtain ⟨L, hL⟩ : ∃ z, l.length = z := ⟨_, rfl⟩
      rw [hci, hce, hL] at CE
      rw [hci, hce, hL] at KC
      rw [hce, hL] at KN KB
      clear hci hce hL hl2 hlt T_u
      go_upto_region 7 with (first
        | ((with_reducible show wpList _ _ _ (⟨none, .store 52 (.tmp 3) (.tmp 50), _, _, _, _⟩ :: _) _ _); refine wpList_store_v rfl 52 _ _ rfl u.heap.size (by exact rfl) [.slice A L L, .int .i64 ci, .int .i64 (ce : Int)] (by exact rfl) (by kernel_rfl) (by intro z hz; simp only [List.mem_cons, List.not_mem_nil, or_false] at hz; rcases hz with rfl | rfl | rfl <;> rfl) 52 [.slice none 0 0, .int .i64 0, .int .i64 0] (alloc_at _ _) rfl ?_; intro u2 HN1 HO1 HB1; have RX_2 : Hid (VRow u2 u.heap.size 52 [.slice A L L, .int .i64 ci, .int .i64 (ce : Int)]) := HN1; have hB : Below u.heap.size u u2 := (((Below.refl _ _).alloc (Nat.le_refl _) _).trans HB1.out); have RD_2 := Lib.hid (RD_u.out.below hB SB_u.out); have SB_2 := Lib.hid (Nat.le_trans SB_u.out hB.size); have BT_2 := Lib.hid (BT_u.out.trans (hB.mono SB_u.out)); have BB_2 := Lib.hid (BB_u.out.trans (hB.mono BB_u.out.size)); clear HN1 HO1 HB1 hB RD_u SB_u BT_u BB_u)
        | ((with_reducible show wpList _ _ _ (⟨some 50, .load 52 (.tmp 49), _, _, _, _⟩ :: _) _ _); go_must (refine wpList_load_at rfl 52 _ rfl gT (k * 3) (by exact rfl) [.slice A L L, .int .i64 ci, .int .i64 (ce : Int)] _ CE.out Try.underlying52 rfl (by kernel_rfl) ?_)))
      obtain ⟨g3, hg3⟩ : ∃ g, u.heap.size = g := ⟨_, rfl⟩
      rw [hg3] at RX_2 ⊢
      clear hg3
      have x0 := VRow.cell RX_2.out 0 _ rfl
      go_upto_region 8 with (go_at_call 17; refine (KC.out _ RD_2.out SB_2.out).mono ?_; rintro e u3 ⟨rfl, hB⟩; have RX_3 := Lib.hid (VRow.below RX_2.out hB RX_2.out.lt); have RD_3 := Lib.hid (RD_2.out.below hB SB_2.out); have SB_3 := Lib.hid (Nat.le_trans SB_2.out hB.size); have BT_3 := Lib.hid (BT_2.out.trans (hB.mono SB_2.out)); have BB_3 := Lib.hid (BB_2.out.trans (hB.mono BB_2.out.size)); clear hB x0 RX_2 RD_2 SB_2 BT_2 BB_2)
      have HCC : Hid (∀ X, Below u3.heap.size u3 X → X.cell? ⟨g3, 0, none⟩ = some (.slice A L L) ∧ X.cell? ⟨g3, 1, none⟩ = some (.int .i64 ci) ∧ X.cell? ⟨g3, 2, none⟩ = some (.int .i64 (ce : Int))) := Lib.hid (fun X hX => ⟨VRow.cell (VRow.below RX_3.out hX RX_3.out.lt) 0 _ rfl, VRow.cell (VRow.below RX_3.out hX RX_3.out.lt) 1 _ rfl, VRow.cell (VRow.below RX_3.out hX RX_3.out.lt) 2 _ rfl⟩)
      have hdone : Hid (∀ X, Below u3.heap.size u3 X → ∃ k' : Nat, k' ≤ 9 ∧ Value.int .i64 ((k : Int) + 1) = .int .i64 (k' : Int) ∧ Below gB W0 X ∧ Below w.heap.size w X) := Lib.hid (fun X hX => ⟨k + 1, by have := HLT.out; omega, rfl, BT_3.out.trans (hX.mono SB_3.out), BB_3.out.trans (hX.mono BB_3.out.size)⟩)
      by_cases h0 : ce = 0
      · have KK := Lib.hid (KN.out h0)
        subst h0
        clear KN KB
        simp only [show ((0 : Nat) : Int) = 0 from rfl] at HCC ⊢
        refine wp_region_noPanic ?_
        refine wp_region_held_drew (S := fun X => Below u3.heap.size u3 X) (by kernel_rfl) ((Below.refl _ u3).drew) (fun hHeld => ?_)
        refine' take_ 0 rfl (by kernel_rfl) (by kernel_rfl) (by kernel_rfl) (fun _ _ _ h => h) (by rfl) (fun wS hSw => ?_) hHeld ?_
        rotate_left
        focus (obtain ⟨z0, z1, z2⟩ := HCC.out _ hSw; go_simp; (try with_reducible rfl); done)
        try simp only [Act.put, List.setIfInBounds_toArray, List.set_cons_zero, List.set_cons_succ]
        refine' take_ 1 rfl (by kernel_rfl) (by kernel_rfl) (by kernel_rfl) (fun _ _ _ h => h) (by rfl) (fun wS hSw => ?_) hHeld ?_
        rotate_left
        focus (obtain ⟨z0, z1, z2⟩ := HCC.out _ hSw; go_simp; (try with_reducible rfl); done)
        try simp only [Act.put, List.setIfInBounds_toArray, List.set_cons_zero, List.set_cons_succ]
        refine' take_ 2 rfl (by kernel_rfl) (by kernel_rfl) (by kernel_rfl) (fun _ _ _ h => h) (by rfl) (fun wS hSw => ?_) hHeld ?_
        rotate_left
        focus (obtain ⟨z0, z1, z2⟩ := HCC.out _ hSw; go_simp; (try with_reducible rfl); done)
        try simp only [Act.put, List.setIfInBounds_toArray, List.set_cons_zero, List.set_cons_succ]
        refine' take_ 3 rfl (by kernel_rfl) (by kernel_rfl) (by kernel_rfl) (fun _ _ _ h => h) (by rfl) (fun wS hSw => ?_) hHeld ?_
        rotate_left
        focus (obtain ⟨z0, z1, z2⟩ := HCC.out _ hSw; go_simp; (try with_reducible rfl); done)
        try simp only [Act.put, List.setIfInBounds_toArray, List.set_cons_zero, List.set_cons_succ]
        refine' take_ 4 rfl (by kernel_rfl) (by kernel_rfl) (by kernel_rfl) (fun _ _ _ h => h) (by rfl) (fun wS hSw => ?_) hHeld ?_
        rotate_left
        focus (obtain ⟨z0, z1, z2⟩ := HCC.out _ hSw; go_simp; (try with_reducible rfl); done)
        try simp only [Act.put, List.setIfInBounds_toArray, List.set_cons_zero, List.set_cons_succ]
        refine' take_ 5 rfl (by kernel_rfl) (by kernel_rfl) (by kernel_rfl) (fun _ _ _ h => h) (by rfl) (fun wS hSw => ?_) hHeld ?_
        rotate_left
        focus (obtain ⟨z0, z1, z2⟩ := HCC.out _ hSw; go_simp; (try with_reducible rfl); done)
        try simp only [Act.put, List.setIfInBounds_toArray, List.set_cons_zero, List.set_cons_succ]
        refine' take_ 6 rfl (by kernel_rfl) (by kernel_rfl) (by kernel_rfl) (fun _ _ _ h => h) (by rfl) (fun wS hSw => ?_) hHeld ?_
        rotate_left
        focus (obtain ⟨z0, z1, z2⟩ := HCC.out _ hSw; go_simp; (try with_reducible rfl); done)
        try simp only [Act.put, List.setIfInBounds_toArray, List.set_cons_zero, List.set_cons_succ]
        refine' take_ 7 rfl (by kernel_rfl) (by kernel_rfl) (by kernel_rfl) (fun _ _ _ h => h) (by rfl) (fun wS hSw => ?_) hHeld ?_
        rotate_left
        focus (obtain ⟨z0, z1, z2⟩ := HCC.out _ hSw; go_simp; (try with_reducible rfl); done)
        try simp only [Act.put, List.setIfInBounds_toArray, List.set_cons_zero, List.set_cons_succ]
        refine' take_ 8 rfl (by kernel_rfl) (by kernel_rfl) (by kernel_rfl) (fun _ _ _ h => h) (by rfl) (fun wS hSw => ?_) hHeld ?_
        rotate_left
        focus (obtain ⟨z0, z1, z2⟩ := HCC.out _ hSw; go_simp; (try with_reducible rfl); done)
        try simp only [Act.put, List.setIfInBounds_toArray, List.set_cons_zero, List.set_cons_succ]
        refine' take_ 9 rfl (by kernel_rfl) (by kernel_rfl) (by kernel_rfl) (fun _ _ _ h => h) (by rfl) (fun wS hSw => ?_) hHeld ?_
        rotate_left
        focus (obtain ⟨z0, z1, z2⟩ := HCC.out _ hSw; go_simp; (try with_reducible rfl); done)
        try simp only [Act.put, List.setIfInBounds_toArray, List.set_cons_zero, List.set_cons_succ]
        refine' take_ 10 rfl (by kernel_rfl) (by kernel_rfl) (by kernel_rfl) (fun _ _ _ h => h) (by rfl) (fun wS hSw => ?_) hHeld ?_
        rotate_left
        focus (obtain ⟨z0, z1, z2⟩ := HCC.out _ hSw; go_simp; (try with_reducible rfl); done)
        try simp only [Act.put, List.setIfInBounds_toArray, List.set_cons_zero, List.set_cons_succ]
        refine' take_ 11 rfl (by kernel_rfl) (by kernel_rfl) (by kernel_rfl) (fun _ _ _ h => h) (by rfl) (fun wS hSw => ?_) hHeld ?_
        rotate_left
        focus (obtain ⟨z0, z1, z2⟩ := HCC.out _ hSw; go_simp; (try with_reducible rfl); done)
        try simp only [Act.put, List.setIfInBounds_toArray, List.set_cons_zero, List.set_cons_succ]
        refine' take_ 12 rfl (by kernel_rfl) (by kernel_rfl) (by kernel_rfl) (fun _ _ _ h => h) (by rfl) (fun wS hSw => ?_) hHeld ?_
        rotate_left
        focus (obtain ⟨z0, z1, z2⟩ := HCC.out _ hSw; go_simp; (try with_reducible rfl); done)
        try simp only [Act.put, List.setIfInBounds_toArray, List.set_cons_zero, List.set_cons_succ]
        refine' take_ 15 rfl (by kernel_rfl) (by kernel_rfl) (by kernel_rfl) (fun _ _ _ h => h) (by rfl) (fun wS hSw => ?_) hHeld ?_
        rotate_left
        focus (obtain ⟨z0, z1, z2⟩ := HCC.out _ hSw; go_simp; (try with_reducible rfl); done)
        try simp only [Act.put, List.setIfInBounds_toArray, List.set_cons_zero, List.set_cons_succ]
        refine' take_ 16 rfl (by kernel_rfl) (by kernel_rfl) (by kernel_rfl) (fun _ _ _ h => h) (by rfl) (fun wS hSw => ?_) hHeld ?_
        rotate_left
        focus (obtain ⟨z0, z1, z2⟩ := HCC.out _ hSw; go_simp; (try with_reducible rfl); done)
        try simp only [Act.put, List.setIfInBounds_toArray, List.set_cons_zero, List.set_cons_succ]
        refine' take_ 17 rfl (by kernel_rfl) (by kernel_rfl) (by kernel_rfl) (fun _ _ _ h => h) (by rfl) (fun wS hSw => ?_) hHeld ?_
        rotate_left
        focus (obtain ⟨z0, z1, z2⟩ := HCC.out _ hSw; go_simp; (try with_reducible rfl); done)
        try simp only [Act.put, List.setIfInBounds_toArray, List.set_cons_zero, List.set_cons_succ]
        refine only_ 13 rfl (by kernel_rfl) (by rfl) (fun K hK => ?_)
        obtain ⟨Y, hY⟩ : ∃ Y, u3.drew = Y := ⟨_, rfl⟩
        rw [hY] at hHeld ⊢
        clear hY
        refine wp_call_some 9 _ _ rfl _ (by rfl) (by kernel_rfl) (KK.out _ (RD_3.out.below hHeld SB_3.out) (Nat.le_trans SB_3.out hHeld.size)) (fun na Y2 hB => ?_)
        have hH2 := hHeld.trans (hB.mono hHeld.size)
        refine hK.out _ _ hH2 (fun _ => ?_)
        clear hK K hB hHeld
        have hHeld := hH2
        clear hH2
        show wpAnyH _ _ _ _ _ _ _ (Act.put _ (some 70) _) _
        try simp only [Act.put, List.setIfInBounds_toArray, List.set_cons_zero, List.set_cons_succ]
        refine' take_ 14 rfl (by kernel_rfl) (by kernel_rfl) (by kernel_rfl) (fun _ _ _ h => h) (by rfl) (fun wS hSw => ?_) hHeld ?_
        rotate_left
        focus (go_simp; (try with_reducible rfl); done)
        try simp only [Act.put, List.setIfInBounds_toArray, List.set_cons_zero, List.set_cons_succ]
        refine' take_ 18 rfl (by kernel_rfl) (by kernel_rfl) (by kernel_rfl) (fun _ _ _ h => h) (by rfl) (fun wS hSw => ?_) hHeld ?_
        rotate_left
        focus (go_simp; (try with_reducible rfl); done)
        try simp only [Act.put, List.setIfInBounds_toArray, List.set_cons_zero, List.set_cons_succ]
        refine' take_ 19 rfl (by kernel_rfl) (by kernel_rfl) (by kernel_rfl) (fun _ _ _ h => h) (by rfl) (fun wS hSw => ?_) hHeld ?_
        rotate_left
        focus (go_simp; (try with_reducible rfl); done)
        try simp only [Act.put, List.setIfInBounds_toArray, List.set_cons_zero, List.set_cons_succ]
        refine wpAnyH_done (by kernel_rfl) ?_ _
        refine NoPanic.normal ?_
        go_wp2_with fail
        go_roundw
        case rel => exact hdone.out _ hHeld
        case measure =>
          simp [intOf]
          have := HLT.out
          (try omega)
      · have KK := Lib.hid (KB.out h0)
        have e2 : ((ce : Int) != 0) = true := by simpa using h0
        have e1 : ((ce : Int) == 0) = false := by simpa using h0
        clear KN KB h0
        refine wp_region_noPanic ?_
        refine wp_region_held_drew (S := fun X => Below u3.heap.size u3 X) (by kernel_rfl) ((Below.refl _ u3).drew) (fun hHeld => ?_)
        refine' take_ 0 rfl (by kernel_rfl) (by kernel_rfl) (by kernel_rfl) (fun _ _ _ h => h) (by rfl) (fun wS hSw => ?_) hHeld ?_
        rotate_left
        focus (obtain ⟨z0, z1, z2⟩ := HCC.out _ hSw; go_simp; (try with_reducible rfl); done)
        try simp only [Act.put, List.setIfInBounds_toArray, List.set_cons_zero, List.set_cons_succ]
        refine' take_ 1 rfl (by kernel_rfl) (by kernel_rfl) (by kernel_rfl) (fun _ _ _ h => h) (by rfl) (fun wS hSw => ?_) hHeld ?_
        rotate_left
        focus (obtain ⟨z0, z1, z2⟩ := HCC.out _ hSw; go_simp; (try with_reducible rfl); done)
        try simp only [Act.put, List.setIfInBounds_toArray, List.set_cons_zero, List.set_cons_succ]
        refine' take_ 2 rfl (by kernel_rfl) (by kernel_rfl) (by kernel_rfl) (fun _ _ _ h => h) (by rfl) (fun wS hSw => ?_) hHeld ?_
        rotate_left
        focus (obtain ⟨z0, z1, z2⟩ := HCC.out _ hSw; go_simp; (try with_reducible rfl); done)
        try simp only [Act.put, List.setIfInBounds_toArray, List.set_cons_zero, List.set_cons_succ]
        refine' take_ 3 rfl (by kernel_rfl) (by kernel_rfl) (by kernel_rfl) (fun _ _ _ h => h) (by rfl) (fun wS hSw => ?_) hHeld ?_
        rotate_left
        focus (obtain ⟨z0, z1, z2⟩ := HCC.out _ hSw; go_simp; (try with_reducible rfl); done)
        try simp only [Act.put, List.setIfInBounds_toArray, List.set_cons_zero, List.set_cons_succ]
        refine' take_ 4 rfl (by kernel_rfl) (by kernel_rfl) (by kernel_rfl) (fun _ _ _ h => h) (by rfl) (fun wS hSw => ?_) hHeld ?_
        rotate_left
        focus (obtain ⟨z0, z1, z2⟩ := HCC.out _ hSw; go_simp; (try with_reducible rfl); done)
        try simp only [Act.put, List.setIfInBounds_toArray, List.set_cons_zero, List.set_cons_succ]
        refine' take_ 5 rfl (by kernel_rfl) (by kernel_rfl) (by kernel_rfl) (fun _ _ _ h => h) (by rfl) (fun wS hSw => ?_) hHeld ?_
        rotate_left
        focus (obtain ⟨z0, z1, z2⟩ := HCC.out _ hSw; go_simp; (try with_reducible rfl); done)
        try simp only [Act.put, List.setIfInBounds_toArray, List.set_cons_zero, List.set_cons_succ]
        refine' take_ 6 rfl (by kernel_rfl) (by kernel_rfl) (by kernel_rfl) (fun _ _ _ h => h) (by rfl) (fun wS hSw => ?_) hHeld ?_
        rotate_left
        focus (obtain ⟨z0, z1, z2⟩ := HCC.out _ hSw; go_simp; (try with_reducible rfl); done)
        try simp only [Act.put, List.setIfInBounds_toArray, List.set_cons_zero, List.set_cons_succ]
        refine' take_ 7 rfl (by kernel_rfl) (by kernel_rfl) (by kernel_rfl) (fun _ _ _ h => h) (by rfl) (fun wS hSw => ?_) hHeld ?_
        rotate_left
        focus (obtain ⟨z0, z1, z2⟩ := HCC.out _ hSw; go_simp; (try with_reducible rfl); done)
        try simp only [Act.put, List.setIfInBounds_toArray, List.set_cons_zero, List.set_cons_succ]
        refine' take_ 8 rfl (by kernel_rfl) (by kernel_rfl) (by kernel_rfl) (fun _ _ _ h => h) (by rfl) (fun wS hSw => ?_) hHeld ?_
        rotate_left
        focus (obtain ⟨z0, z1, z2⟩ := HCC.out _ hSw; go_simp; (try with_reducible rfl); done)
        try simp only [Act.put, List.setIfInBounds_toArray, List.set_cons_zero, List.set_cons_succ]
        refine' take_ 9 rfl (by kernel_rfl) (by kernel_rfl) (by kernel_rfl) (fun _ _ _ h => h) (by rfl) (fun wS hSw => ?_) hHeld ?_
        rotate_left
        focus (obtain ⟨z0, z1, z2⟩ := HCC.out _ hSw; go_simp; (try with_reducible rfl); done)
        try simp only [Act.put, List.setIfInBounds_toArray, List.set_cons_zero, List.set_cons_succ]
        refine' take_ 10 rfl (by kernel_rfl) (by kernel_rfl) (by kernel_rfl) (fun _ _ _ h => h) (by rfl) (fun wS hSw => ?_) hHeld ?_
        rotate_left
        focus (obtain ⟨z0, z1, z2⟩ := HCC.out _ hSw; go_simp; (try with_reducible rfl); done)
        try simp only [Act.put, List.setIfInBounds_toArray, List.set_cons_zero, List.set_cons_succ]
        refine' take_ 11 rfl (by kernel_rfl) (by kernel_rfl) (by kernel_rfl) (fun _ _ _ h => h) (by rfl) (fun wS hSw => ?_) hHeld ?_
        rotate_left
        focus (obtain ⟨z0, z1, z2⟩ := HCC.out _ hSw; go_simp; (try with_reducible rfl); done)
        try simp only [Act.put, List.setIfInBounds_toArray, List.set_cons_zero, List.set_cons_succ]
        refine' take_ 12 rfl (by kernel_rfl) (by kernel_rfl) (by kernel_rfl) (fun _ _ _ h => h) (by rfl) (fun wS hSw => ?_) hHeld ?_
        rotate_left
        focus (obtain ⟨z0, z1, z2⟩ := HCC.out _ hSw; go_simp; (try with_reducible rfl); done)
        try simp only [Act.put, List.setIfInBounds_toArray, List.set_cons_zero, List.set_cons_succ]
        refine' take_ 15 rfl (by kernel_rfl) (by kernel_rfl) (by kernel_rfl) (fun _ _ _ h => h) (by rfl) (fun wS hSw => ?_) hHeld ?_
        rotate_left
        focus (obtain ⟨z0, z1, z2⟩ := HCC.out _ hSw; go_simp; (try with_reducible rfl); done)
        try simp only [Act.put, List.setIfInBounds_toArray, List.set_cons_zero, List.set_cons_succ]
        refine' take_ 16 rfl (by kernel_rfl) (by kernel_rfl) (by kernel_rfl) (fun _ _ _ h => h) (by rfl) (fun wS hSw => ?_) hHeld ?_
        rotate_left
        focus (obtain ⟨z0, z1, z2⟩ := HCC.out _ hSw; go_simp; (try with_reducible rfl); done)
        try simp only [Act.put, List.setIfInBounds_toArray, List.set_cons_zero, List.set_cons_succ]
        refine' take_ 17 rfl (by kernel_rfl) (by kernel_rfl) (by kernel_rfl) (fun _ _ _ h => h) (by rfl) (fun wS hSw => ?_) hHeld ?_
        rotate_left
        focus (obtain ⟨z0, z1, z2⟩ := HCC.out _ hSw; go_simp; (try with_reducible rfl); done)
        try simp only [Act.put, List.setIfInBounds_toArray, List.set_cons_zero, List.set_cons_succ]
        refine only_ 13 rfl (by kernel_rfl) (by rfl) (fun K hK => ?_)
        obtain ⟨Y, hY⟩ : ∃ Y, u3.drew = Y := ⟨_, rfl⟩
        rw [hY] at hHeld ⊢
        clear hY
        refine wp_call_ret 9 _ _ rfl _ (by rfl) (by kernel_rfl) _ (KK.out _ (RD_3.out.below hHeld SB_3.out) (Nat.le_trans SB_3.out hHeld.size)) (fun Y2 hB => ?_)
        have hH2 := hHeld.trans (hB.mono hHeld.size)
        refine hK.out _ _ hH2 (fun _ => ?_)
        clear hK K hB hHeld
        have hHeld := hH2
        clear hH2
        show wpAnyH _ _ _ _ _ _ _ (Act.put _ (some 70) _) _
        try simp only [Act.put, List.setIfInBounds_toArray, List.set_cons_zero, List.set_cons_succ]
        refine' take_ 14 rfl (by kernel_rfl) (by kernel_rfl) (by kernel_rfl) (fun _ _ _ h => h) (by rfl) (fun wS hSw => ?_) hHeld ?_
        rotate_left
        focus (go_simp; (try with_reducible rfl); done)
        try simp only [Act.put, List.setIfInBounds_toArray, List.set_cons_zero, List.set_cons_succ]
        refine' take_ 18 rfl (by kernel_rfl) (by kernel_rfl) (by kernel_rfl) (fun _ _ _ h => h) (by rfl) (fun wS hSw => ?_) hHeld ?_
        rotate_left
        focus (go_simp; (try with_reducible rfl); done)
        try simp only [Act.put, List.setIfInBounds_toArray, List.set_cons_zero, List.set_cons_succ]
        refine' take_ 19 rfl (by kernel_rfl) (by kernel_rfl) (by kernel_rfl) (fun _ _ _ h => h) (by rfl) (fun wS hSw => ?_) hHeld ?_
        rotate_left
        focus (go_simp; (try with_reducible rfl); done)
        try simp only [Act.put, List.setIfInBounds_toArray, List.set_cons_zero, List.set_cons_succ]
        refine wpAnyH_done (by kernel_rfl) ?_ _
        refine NoPanic.normal ?_
        go_wp2_with fail
        go_roundw
        case rel => exact hdone.out _ hHeld
        case measure =>
          simp [intOf]
          have := HLT.out
          (try omega)
    · obtain rfl : k = 9 := by omega
      have d1 : ¬ (9 : Int) < 9 := by omega
      have d2 : ¬ ((9 : Nat) : Int) < 9 := by omega
      clear HT0 BT_u HGT HZ HC HNW HBD hk
      have BB_0 := BB_u
      obtain ⟨v0, hv0⟩ : ∃ W, u = W := ⟨_, rfl⟩
      rw [hv0] at BB_0 ⊢
      clear hv0 BB_u
      go_upto_region 12 with (first
        | (go_at_call 16; have hc := BB_1; clear hc; refine (k_set1 H _ v1 E_1.out).mono ?_; rintro e v2 ⟨⟨A1, n1, c1, rfl⟩, hB⟩; have BB_2 := Lib.hid (BB_1.out.trans (hB.mono BB_1.out.size)); clear hB BB_1)
        | (go_at_call 20; have hc := BB_0; clear hc; refine (ex_rd v0).mono ?_; rintro e v1 ⟨⟨rfl, hE⟩, hB⟩; have BB_1 := Lib.hid (BB_0.out.trans (hB.mono BB_0.out.size)); have E_1 := Lib.hid hE; clear hE; clear hB BB_0))
      go_upto_region 13 with (first
        | (go_at_call 16; have hc := BB_2; clear hc; refine (k_set2 H _ _ (k_one v2)).mono ?_; rintro e v3 ⟨⟨A2, n2, c2, rfl⟩, hB⟩; have BB_3 := Lib.hid (below_al BB_2.out hB); clear hB BB_2))
      go_upto_region 14 with (first
        | (go_at_call 16; have hc := BB_4; clear hc; refine (k_set3 H _ v4 E_4.out).mono ?_; rintro e v5 ⟨⟨A3, c3, rfl, hR⟩, hB⟩; have BB_5 := Lib.hid (BB_4.out.trans (hB.mono BB_4.out.size)); have R3 := Lib.hid hR; clear hR; clear hB BB_4)
        | (go_at_call 20; have hc := BB_3; clear hc; refine (ex_rd v3).mono ?_; rintro e v4 ⟨⟨rfl, hE⟩, hB⟩; have BB_4 := Lib.hid (BB_3.out.trans (hB.mono BB_3.out.size)); have E_4 := Lib.hid hE; clear hE; clear hB BB_3))
      obtain ⟨a3, hA3, _, _, _, _, _, hc2⟩ := R3.out.get (show ([⟨2, 0, 9⟩, ⟨2, 1, 65⟩, ⟨5, 0, 1⟩, ⟨5, 2, 8⟩] : List In)[0]? = some ⟨2, 0, 9⟩ from rfl)
      subst hA3
      have hm : v5.cell? ⟨a3.block, a3.off + 2, none⟩ = some (.int .u8 9) := hc2
      clear hc2 R3
      have gg := guard_now
      have ge := eql_n1
      go_wp2_with (first
        | (go_at_call 19; have hc := BB_13; clear hc; refine (k_upto H _ v13 E_13.out).mono ?_; rintro e v14 ⟨⟨A4, c4, rfl⟩, hB⟩; have BB_14 := Lib.hid (BB_13.out.trans (hB.mono BB_13.out.size)); clear hB BB_13)
        | (go_at_call 20; have hc := BB_12; clear hc; refine (ex_rd v12).mono ?_; rintro e v13 ⟨⟨rfl, hE⟩, hB⟩; have BB_13 := Lib.hid (BB_12.out.trans (hB.mono BB_12.out.size)); have E_13 := Lib.hid hE; clear hE; clear hB BB_12)
        | (go_at_call 13; have hc := BB_11; clear hc; refine (HN.cycle v11).mono ?_; rintro e v12 ⟨rfl, hB⟩; have BB_12 := Lib.hid (BB_11.out.trans (hB.mono BB_11.out.size)); clear hB BB_11)
        | (go_at_call 11; have hc := BB_10; clear hc; refine (k_next HN v10).mono ?_; rintro e v11 ⟨rfl, hB⟩; have BB_11 := Lib.hid (BB_10.out.trans (hB.mono BB_10.out.size)); clear hB BB_10)
        | (go_at_call 18; have hc := BB_9; clear hc; refine (k_at3 H _ _ (k_two v9)).mono ?_; rintro e v10 ⟨rfl, hB⟩; have BB_10 := Lib.hid (below_al BB_9.out hB); clear hB BB_9)
        | (go_at_call 18; have hc := BB_8; clear hc; refine (k_at2 H _ v8 E_8.out).mono ?_; rintro e v9 ⟨rfl, hB⟩; have BB_9 := Lib.hid (BB_8.out.trans (hB.mono BB_8.out.size)); clear hB BB_8)
        | (go_at_call 20; have hc := BB_7; clear hc; refine (ex_rd v7).mono ?_; rintro e v8 ⟨⟨rfl, hE⟩, hB⟩; have BB_8 := Lib.hid (BB_7.out.trans (hB.mono BB_7.out.size)); have E_8 := Lib.hid hE; clear hE; clear hB BB_7)
        | (go_at_call 18; have hc := BB_6; clear hc; refine (k_at1 H _ v6 E_6.out).mono ?_; rintro e v7 ⟨rfl, hB⟩; have BB_7 := Lib.hid (BB_6.out.trans (hB.mono BB_6.out.size)); clear hB BB_6)
        | (go_at_call 20; have hc := BB_5; clear hc; refine (ex_rd v5).mono ?_; clear hm; rintro e v6 ⟨⟨rfl, hE⟩, hB⟩; have BB_6 := Lib.hid (BB_5.out.trans (hB.mono BB_5.out.size)); have E_6 := Lib.hid hE; clear hE; clear hB BB_5))
      go_ret
      exact ⟨rfl, BB_14.out⟩
end Go.Proofs.Ytimlhckihkjifaa
