/-
  The document's own Pop: by its contract. Made by wip/genfiforpop.py.
-/
import Derived.Test.YtgpgijdciaieaaaRpush
namespace Go.Proofs.Ytgpgijdciaieaaa
open Go.RowKit
set_option linter.unusedVariables false
set_option maxRecDepth 100000 in
theorem rPop_any (n : Int) (bs : List Nat) (w : World) (hb : bs.length = 8) (hn : -9223372036854775808 ≤ n) (hn' : n ≤ 9223372036854775807) :
    Calls Try.prog 30 #[qv n bs] w fun e w' => e = .returned (popV (cutL n bs)) ∧ Below w.heap.size w w' := by
  have hle := cutL_le n bs hb
  obtain ⟨L, hL⟩ : ∃ L, cutL n bs = L := ⟨_, rfl⟩
  rw [hL] at hle ⊢
  have HM : Hid (∀ W : World, Calls Try.prog 39 #[qv n bs] W fun e w' => ∃ v, e = .returned v ∧ Own w' (W.heap.size + 1) v L ∧ Below W.heap.size W w') := Lib.hid (fun W => by rw [← hL]; exact rAll_any n bs W hb hn hn')
  clear hL
  obtain ⟨b0, b1, b2, b3, b4, b5, b6, b7, rfl⟩ := eight hb
  rw [qv_eq]
  rcases L with _ | ⟨x, r⟩
  · go_enter Try.func30, Try.ntmps30
    go_wp2_with (first
      | (go_at_call 39; refine (HM.out _).mono ?_; rintro e w1 ⟨v, rfl, hv, hB⟩
         have HR1 : Hid (QRow w1 (w.heap.size + 1) 44 0 [0, 0, 0, 0, 0, 0, 0, 0]) := Lib.hid (QRow.below (two_at _ _ _) hB (by simp))
         have HB1 : Hid (Below w.heap.size w w1) := Lib.hid ((two_below _ _ _).trans (hB.mono (by simp; omega)))
         obtain ⟨A, c, rfl⟩ := own_form hv
         clear hB hv)
      | ((with_reducible show wpList _ _ _ (⟨some 6, .load 44 (.tmp 1), _, _, _, _⟩ :: _) _ _); refine wpList_load_q rfl 44 _ rfl (w.heap.size) (by exact rfl) _ Try.underlying44 (by kernel_rfl) 44 _ _ (QRow.below (two_at0 _ _ _) (Below.refl (w.heap.size + 1) _) (by omega)) (rfl) ?_)
      | ((with_reducible show wpList _ _ _ (⟨none, .store 44 (.tmp 3) (.tmp 11), _, _, _, _⟩ :: _) _ _); refine wpList_store_q rfl 44 _ _ rfl (w.heap.size + 1) (by exact rfl) 0 [0, 0, 0, 0, 0, 0, 0, 0] (by exact rfl) rfl (by kernel_rfl) 44 _ _ (HR1.out) rfl ?_; intro w4 HN HO4 HB4))
    have hlv := run_loadVar_q (P := Try.prog) w4 (w.heap.size + 1) 44 _ Try.underlying44 (by kernel_rfl) _ _ _ HN.out rfl
    exact bodyPost_ret (v := .tuple #[.int .u8 0, ofV [], .bool false]) (results_bqb Try.results30 _ _ _ _ _ _ _ rfl hlv rfl rfl) rfl ⟨rfl, HB1.out.trans (HB4.out.mono (by omega))⟩
  · obtain ⟨k, hk⟩ : ∃ k, r.length = k := ⟨_, rfl⟩
    have HK := Lib.hid hk
    have hle8 : k ≤ 7 := by simp at hle; omega
    have hne : ¬ ((k : Int) + 1 = 0) := by omega
    have hpos : (0 : Int) < (k : Int) + 1 := by omega
    go_enter Try.func30, Try.ntmps30
    go_wp2_with (first
      | (go_at_call 39; refine (HM.out _).mono ?_; rintro e w1 ⟨v, rfl, hv, hB⟩
         have HR1 : Hid (QRow w1 (w.heap.size + 1) 44 0 [0, 0, 0, 0, 0, 0, 0, 0]) := Lib.hid (QRow.below (two_at _ _ _) hB (by simp))
         have HB1 : Hid (Below w.heap.size w w1) := Lib.hid ((two_below _ _ _).trans (hB.mono (by simp; omega)))
         have HV : Hid (Own w1 (w.heap.size + 2) v (x :: r)) := Lib.hid (hv.mono (by simp))
         have hcs : w1.ownsRow (w.heap.size + 2) 5 1 v (k + 1) (bvals (x :: r)) := by rw [← HK.out]; exact HV.out
         obtain ⟨g, cap, rfl⟩ := own_succ hcs
         clear hcs
         clear hB hv)
      | ((with_reducible show wpList _ _ _ (⟨some 6, .load 44 (.tmp 1), _, _, _, _⟩ :: _) _ _); refine wpList_load_q rfl 44 _ rfl (w.heap.size) (by exact rfl) _ Try.underlying44 (by kernel_rfl) 44 _ _ (QRow.below (two_at0 _ _ _) (Below.refl (w.heap.size + 1) _) (by omega)) (rfl) ?_))
    obtain ⟨A', cap', he, hcap, -, -, hrd, -⟩ := HV.out.form
    injection he with e1 e2 e3
    subst e1
    subst e3
    rw [List.length_cons, hk] at hcap
    have hg := hrd.low _ rfl (by simp)
    have hg2 := (HV.out.lt g rfl).1
    have hc0 : w1.cell? ⟨g, 0, none⟩ = some (.int .u8 (x : Int)) := by
      have h := hrd.cells _ rfl 0 x rfl
      simpa [Addr.add] using h
    have hS := fun W => run_cut1 g k cap hcap W
    have HF : Hid (∀ (W : World), Below w1.heap.size w1 W → Calls Try.prog 40 #[.slice (cutA g cap) k (cap - 1)] W fun e w' => e = .returned (ofV r) ∧ Below W.heap.size W w') := Lib.hid (fun W hW => rOf_any _ k _ r W hk (by omega) ((rdb_cut (hrd.below hW (Nat.le_refl _)) hk hcap).more hW.size))
    clear hrd HV e2 hk HK HM hle hcap
    obtain ⟨Y, hY⟩ : ∃ Y, cutA g cap = Y := ⟨_, rfl⟩
    rw [hY] at hS HF
    clear hY
    refine wp_region_noPanic ?_
    refine wp_region_held_drew (S := fun X => X.cell? ⟨g, 0, none⟩ = some (.int .u8 (x : Int))) (by kernel_rfl) (hc0) (fun hHeld => ?_)
    refine' take_ 0 rfl (by kernel_rfl) (by kernel_rfl) (by kernel_rfl) (fun _ _ _ h => h) (by rfl) (fun wS hSw => ?_) hHeld ?_
    rotate_left
    focus (go_simp; (try with_reducible rfl); done)
    try simp only [Act.put, List.setIfInBounds_toArray, List.set_cons_zero, List.set_cons_succ]
    refine' take_ 1 rfl (by kernel_rfl) (by kernel_rfl) (by kernel_rfl) (fun _ _ _ h => h) (by rfl) (fun wS hSw => ?_) hHeld ?_
    rotate_left
    focus (go_simp; (try with_reducible rfl); done)
    try simp only [Act.put, List.setIfInBounds_toArray, List.set_cons_zero, List.set_cons_succ]
    refine' take_ 2 rfl (by kernel_rfl) (by kernel_rfl) (by kernel_rfl) (fun _ _ _ h => h) (by rfl) (fun wS hSw => ?_) hHeld ?_
    rotate_left
    focus (have s0 : wS.cell? ⟨g, 0, none⟩ = some (.int .u8 (x : Int)) := hSw; go_simp; (try with_reducible rfl); done)
    try simp only [Act.put, List.setIfInBounds_toArray, List.set_cons_zero, List.set_cons_succ]
    refine' take_ 3 rfl (by kernel_rfl) (by kernel_rfl) (by kernel_rfl) (fun _ _ _ h => h) (by rfl) (fun wS hSw => ?_) hHeld ?_
    rotate_left
    focus (go_simp; (try with_reducible rfl); done)
    try simp only [Act.put, List.setIfInBounds_toArray, List.set_cons_zero, List.set_cons_succ]
    refine' take_ 4 rfl (by kernel_rfl) (by kernel_rfl) (by kernel_rfl) (fun _ _ _ h => h) (by rfl) (fun wS hSw => ?_) hHeld ?_
    rotate_left
    focus (go_simp; (try with_reducible rfl); done)
    try simp only [Act.put, List.setIfInBounds_toArray, List.set_cons_zero, List.set_cons_succ]
    refine only_ 5 rfl (by kernel_rfl) (by rfl) (fun K hK => ?_)
    go_simp
    refine (HF.out _ (Below.refl _ w1).drew).mono ?_
    rintro e w2 ⟨rfl, hB⟩
    have HR3 : Hid (QRow w2 (w.heap.size + 1) 44 0 [0, 0, 0, 0, 0, 0, 0, 0]) := Lib.hid (QRow.below (w := w1.drew) HR1.out hB HR1.out.lt)
    have HA3 : Hid (Below w.heap.size w w2) := Lib.hid (HB1.out.drew.trans (hB.mono HB1.out.size))
    have hH1 : w2.cell? ⟨g, 0, none⟩ = some (.int .u8 (x : Int)) := (hB.cell (p := ⟨g, 0, none⟩) hg).trans hc0
    clear hB
    go_simp
    refine hK.out _ _ (hH1) (fun hHeld2 => ?_)
    clear hK K hHeld
    have hHeld := hHeld2
    clear hHeld2
    try simp only [Act.put, List.setIfInBounds_toArray, List.set_cons_zero, List.set_cons_succ]
    refine' take_ 6 rfl (by kernel_rfl) (by kernel_rfl) (by kernel_rfl) (fun _ _ _ h => h) (by rfl) (fun wS hSw => ?_) hHeld ?_
    rotate_left
    focus (go_simp; (try with_reducible rfl); done)
    try simp only [Act.put, List.setIfInBounds_toArray, List.set_cons_zero, List.set_cons_succ]
    refine only_ 7 rfl (by kernel_rfl) (by rfl) (fun K hK => ?_)
    refine wp_store_q 44 _ _ rfl (w.heap.size + 1) rfl _ _ rfl (pad_length _) (by kernel_rfl) 44 _ _ (show QRow _ _ _ 0 [0, 0, 0, 0, 0, 0, 0, 0] from HR3.out) rfl ?_
    intro w3 HN HO3 HB3
    refine hK.out _ _ ((World.cell?_of_block (w := w2) (a := ⟨g, 0, none⟩) (HO3.out g (by omega))).trans hHeld) (fun hHeld2 => ?_)
    clear hK K hHeld
    have hHeld := hHeld2
    clear hHeld2
    try simp only [Act.put]
    refine' take_ 8 rfl (by kernel_rfl) (by kernel_rfl) (by kernel_rfl) (fun _ _ _ h => h) (by rfl) (fun wS hSw => ?_) hHeld ?_
    rotate_left
    focus (go_simp; (try with_reducible rfl); done)
    try simp only [Act.put, List.setIfInBounds_toArray, List.set_cons_zero, List.set_cons_succ]
    refine wpAnyH_done (by kernel_rfl) ?_ _
    refine NoPanic.normal ?_
    go_wp2
    have hlv := run_loadVar_q (P := Try.prog) w3 (w.heap.size + 1) 44 _ Try.underlying44 (by kernel_rfl) _ _ _ HN.out (pad_length _)
    exact bodyPost_ret (v := .tuple #[.int .u8 (x : Int), ofV r, .bool true]) (results_bqb Try.results30 _ _ _ _ _ _ _ rfl hlv rfl rfl) rfl ⟨rfl, HA3.out.trans (HB3.out.mono (by omega))⟩
end Go.Proofs.Ytgpgijdciaieaaa
