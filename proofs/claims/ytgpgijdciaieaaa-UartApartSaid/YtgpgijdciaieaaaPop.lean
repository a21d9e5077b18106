/-
  Pop: by its contract: of any value. Made by wip/genfifopop.py.
-/
import Derived.Test.YtgpgijdciaieaaaPush
namespace Go.Proofs.Ytgpgijdciaieaaa
open Go.RowKit
set_option linter.unusedVariables false
/-- What Pop answers. -/
def popV : List Nat → Value
  | [] => .tuple #[.int .u8 0, ofV [], .bool false]
  | x :: r => .tuple #[.int .u8 x, ofV r, .bool true]
theorem pad_tail (x : Nat) (r : List Nat) (h : r.length ≤ 7) : ((pad (x :: r)).drop 1).take r.length = r := by
  rw [pad_le (by simp; omega)]
  simp
set_option maxRecDepth 100000 in
theorem pop_any (n : Int) (bs : List Nat) (w : World) (hb : bs.length = 8) (hn : -9223372036854775808 ≤ n) (hn' : n ≤ 9223372036854775807) :
    Calls Try.prog 29 #[qv n bs] w fun e w' => e = .returned (popV (cutL n bs)) ∧ Below w.heap.size w w' := by
  have hle := cutL_le n bs hb
  obtain ⟨L, hL⟩ : ∃ L, cutL n bs = L := ⟨_, rfl⟩
  rw [hL] at hle ⊢
  have HM : Hid (∀ W : World, Calls Try.prog 24 #[qv n bs] W fun e w' => e = .returned (qv (L.length : Nat) (pad L)) ∧ Below W.heap.size W w') := Lib.hid (fun W => by
    have h := mend_any n bs W hb hn hn'
    rw [hL, ofV_le L hle] at h
    exact h)
  clear hL
  obtain ⟨b0, b1, b2, b3, b4, b5, b6, b7, rfl⟩ := eight hb
  rw [qv_eq]
  obtain ⟨PL, hPL⟩ : ∃ PL, pad L = PL := ⟨_, rfl⟩
  have hP8 : Hid (PL.length = 8) := Lib.hid (by rw [← hPL]; exact pad_length L)
  rw [hPL] at HM
  rcases L with _ | ⟨x, r⟩
  · go_enter Try.func29, Try.ntmps29
    go_wp2_with (first
      | (go_at_call 24; refine (HM.out _).mono ?_; rintro e w1 ⟨rfl, hB⟩
         have HQ1 : Hid (QRow w1 w.heap.size 24 n [b0, b1, b2, b3, b4, b5, b6, b7]) := Lib.hid (QRow.below (two_at0 _ _ _) hB (by simp; omega))
         have HR1 : Hid (QRow w1 (w.heap.size + 1) 24 0 [0, 0, 0, 0, 0, 0, 0, 0]) := Lib.hid (QRow.below (two_at _ _ _) hB (by simp))
         have HB1 : Hid (Below w.heap.size w w1) := Lib.hid ((two_below _ _ _).trans (hB.mono (by simp; omega)))
         clear hB)
      | ((with_reducible show wpList _ _ _ (⟨some 5, .load 24 (.tmp 1), _, _, _, _⟩ :: _) _ _); refine wpList_load_q rfl 24 _ rfl (w.heap.size) (by exact rfl) _ Try.underlying24 (by kernel_rfl) 24 _ _ (QRow.below (two_at0 _ _ _) (Below.refl (w.heap.size + 1) _) (by omega)) (rfl) ?_)
      | ((with_reducible show wpList _ _ _ (⟨none, .store 24 (.tmp 1) (.tmp 6), _, _, _, _⟩ :: _) _ _); refine wpList_store_q rfl 24 _ _ rfl (w.heap.size) (by exact rfl) _ _ (by exact rfl) (hP8.out) (by kernel_rfl) 24 _ _ (HQ1.out) (rfl) ?_; intro w2 HQ2 HO2 HB2
         have HR2 : Hid (QRow w2 (w.heap.size + 1) 24 0 [0, 0, 0, 0, 0, 0, 0, 0]) := Lib.hid ((HO2.out _ (by omega)).trans HR1.out)
         have HA2 : Hid (Below w.heap.size w w2) := Lib.hid (HB1.out.trans HB2.out)
         have q2 : w2.cell? ⟨w.heap.size, 0, none⟩ = some (.int .i64 (0)) := row_at HQ2.out 0 _ rfl
         clear HQ1 HR1 HB1 HO2 HB2))
    refine wp_region_noPanic ?_
    refine wp_region_held_drew (S := fun X => QRow X w.heap.size 24 0 PL) (by kernel_rfl) (HQ2.out) (fun hHeld => ?_)
    refine' take_ 0 rfl (by kernel_rfl) (by kernel_rfl) (by kernel_rfl) (fun _ _ _ h => h) (by rfl) (fun wS hSw => run_load_q wS 24 _ _ rfl _ Try.underlying24 (by kernel_rfl) _ _ _ (hSw) hP8.out _ _ _ _ _) hHeld ?_
    try simp only [Act.put, List.setIfInBounds_toArray, List.set_cons_zero, List.set_cons_succ]
    refine' take_ 1 rfl (by kernel_rfl) (by kernel_rfl) (by kernel_rfl) (fun _ _ _ h => h) (by rfl) (fun wS hSw => ?_) hHeld ?_
    rotate_left
    focus (go_simp; (try with_reducible rfl); done)
    try simp only [Act.put, List.setIfInBounds_toArray, List.set_cons_zero, List.set_cons_succ]
    refine only_ 2 rfl (by kernel_rfl) (by rfl) (fun K hK => ?_)
    refine wp_store_q 24 _ _ rfl (w.heap.size + 1) rfl _ _ rfl hP8.out (by kernel_rfl) 24 _ _ (show QRow _ _ _ 0 [0, 0, 0, 0, 0, 0, 0, 0] from HR2.out) rfl ?_
    intro w3 HN HO3 HB3
    refine hK.out _ _ ((HO3.out _ (by omega)).trans HQ2.out) (fun hHeld2 => ?_)
    clear hK K hHeld
    have hHeld := hHeld2
    clear hHeld2
    try simp only [Act.put]
    refine' take_ 3 rfl (by kernel_rfl) (by kernel_rfl) (by kernel_rfl) (fun _ _ _ h => h) (by rfl) (fun wS hSw => ?_) hHeld ?_
    rotate_left
    focus (go_simp; (try with_reducible rfl); done)
    try simp only [Act.put, List.setIfInBounds_toArray, List.set_cons_zero, List.set_cons_succ]
    refine wpAnyH_done (by kernel_rfl) ?_ _
    refine NoPanic.normal ?_
    go_wp2
    have hlv := run_loadVar_q (P := Try.prog) w3 (w.heap.size + 1) 24 _ Try.underlying24 (by kernel_rfl) _ _ _ HN.out hP8.out
    have hv : qv 0 PL = ofV [] := by rw [ofV_le _ hle, hPL]; rfl
    rw [hv] at hlv
    exact bodyPost_ret (results_bqb Try.results29 _ _ _ _ _ _ _ rfl hlv rfl rfl) rfl ⟨rfl, HA2.out.trans ((Below.refl _ w2).drew.trans (HB3.out.mono (by omega)))⟩
  · have hr : r.length ≤ 7 := by simp at hle; omega
    have HT : Hid ((PL.drop 1).take r.length = r) := Lib.hid (by rw [← hPL]; exact pad_tail x r hr)
    have hx : ∃ p1 p2 p3 p4 p5 p6 p7, PL = [x, p1, p2, p3, p4, p5, p6, p7] := by
      obtain ⟨p0, p1, p2, p3, p4, p5, p6, p7, h⟩ := eight hP8.out
      have h2 : pad (x :: r) = x :: (pad (x :: r)).drop 1 := by
        rw [pad_le (by simp; omega)]
        simp
      rw [hPL, h] at h2
      injection h2 with h3 _
      subst h3
      exact ⟨p1, p2, p3, p4, p5, p6, p7, h⟩
    have HM2 : Hid (∀ W : World, QRow W w.heap.size 24 ((r.length : Int) + 1) PL → Calls Try.prog 33 #[.slice (some ⟨w.heap.size, 2, none⟩) r.length 7] W fun e w' => e = .returned (ofV r) ∧ Below W.heap.size W w') := Lib.hid (fun W hW => by
      have h := rdb_q hW 1 r.length
      rw [HT.out] at h
      exact made_any _ _ _ r W rfl hr h)
    have hS := fun g w => run_slice_one g r.length w (by omega)
    have hne : ¬ ((r.length : Int) + 1 = 0) := by omega
    obtain ⟨p1, p2, p3, p4, p5, p6, p7, rfl⟩ := hx
    have hcast : ((x :: r).length : Int) = (r.length : Int) + 1 := by simp
    rw [hcast] at HM
    clear hcast hPL HT
    obtain ⟨k, hk⟩ : ∃ k, r.length = k := ⟨_, rfl⟩
    rw [hk] at hS HM HM2 hne
    go_enter Try.func29, Try.ntmps29
    go_wp2_with (first
      | (go_at_call 24; refine (HM.out _).mono ?_; rintro e w1 ⟨rfl, hB⟩
         have HQ1 : Hid (QRow w1 w.heap.size 24 n [b0, b1, b2, b3, b4, b5, b6, b7]) := Lib.hid (QRow.below (two_at0 _ _ _) hB (by simp; omega))
         have HR1 : Hid (QRow w1 (w.heap.size + 1) 24 0 [0, 0, 0, 0, 0, 0, 0, 0]) := Lib.hid (QRow.below (two_at _ _ _) hB (by simp))
         have HB1 : Hid (Below w.heap.size w w1) := Lib.hid ((two_below _ _ _).trans (hB.mono (by simp; omega)))
         clear hB)
      | ((with_reducible show wpList _ _ _ (⟨some 5, .load 24 (.tmp 1), _, _, _, _⟩ :: _) _ _); refine wpList_load_q rfl 24 _ rfl (w.heap.size) (by exact rfl) _ Try.underlying24 (by kernel_rfl) 24 _ _ (QRow.below (two_at0 _ _ _) (Below.refl (w.heap.size + 1) _) (by omega)) (rfl) ?_)
      | ((with_reducible show wpList _ _ _ (⟨none, .store 24 (.tmp 1) (.tmp 6), _, _, _, _⟩ :: _) _ _); refine wpList_store_q rfl 24 _ _ rfl (w.heap.size) (by exact rfl) _ _ (by exact rfl) (hP8.out) (by kernel_rfl) 24 _ _ (HQ1.out) (rfl) ?_; intro w2 HQ2 HO2 HB2
         have HR2 : Hid (QRow w2 (w.heap.size + 1) 24 0 [0, 0, 0, 0, 0, 0, 0, 0]) := Lib.hid ((HO2.out _ (by omega)).trans HR1.out)
         have HA2 : Hid (Below w.heap.size w w2) := Lib.hid (HB1.out.trans HB2.out)
         have q2 : w2.cell? ⟨w.heap.size, 0, none⟩ = some (.int .i64 ((k : Int) + 1)) := row_at HQ2.out 0 _ rfl
         clear HQ1 HR1 HB1 HO2 HB2))
    refine wp_region_noPanic ?_
    refine wp_region_held_drew (S := fun X => QRow X w.heap.size 24 ((k : Int) + 1) [x, p1, p2, p3, p4, p5, p6, p7]) (by kernel_rfl) (HQ2.out) (fun hHeld => ?_)
    refine' take_ 0 rfl (by kernel_rfl) (by kernel_rfl) (by kernel_rfl) (fun _ _ _ h => h) (by rfl) (fun wS hSw => ?_) hHeld ?_
    rotate_left
    focus (go_simp; (try with_reducible rfl); done)
    try simp only [Act.put, List.setIfInBounds_toArray, List.set_cons_zero, List.set_cons_succ]
    refine' take_ 1 rfl (by kernel_rfl) (by kernel_rfl) (by kernel_rfl) (fun _ _ _ h => h) (by rfl) (fun wS hSw => ?_) hHeld ?_
    rotate_left
    focus (go_simp; (try with_reducible rfl); done)
    try simp only [Act.put, List.setIfInBounds_toArray, List.set_cons_zero, List.set_cons_succ]
    refine' take_ 2 rfl (by kernel_rfl) (by kernel_rfl) (by kernel_rfl) (fun _ _ _ h => h) (by rfl) (fun wS hSw => ?_) hHeld ?_
    rotate_left
    focus (have s0 := row_at hSw 0 _ rfl; have s1 := row_at hSw 1 _ rfl; go_simp; (try with_reducible rfl); done)
    try simp only [Act.put, List.setIfInBounds_toArray, List.set_cons_zero, List.set_cons_succ]
    refine' take_ 3 rfl (by kernel_rfl) (by kernel_rfl) (by kernel_rfl) (fun _ _ _ h => h) (by rfl) (fun wS hSw => ?_) hHeld ?_
    rotate_left
    focus (go_simp; (try with_reducible rfl); done)
    try simp only [Act.put, List.setIfInBounds_toArray, List.set_cons_zero, List.set_cons_succ]
    refine' take_ 4 rfl (by kernel_rfl) (by kernel_rfl) (by kernel_rfl) (fun _ _ _ h => h) (by rfl) (fun wS hSw => ?_) hHeld ?_
    rotate_left
    focus (go_simp; (try with_reducible rfl); done)
    try simp only [Act.put, List.setIfInBounds_toArray, List.set_cons_zero, List.set_cons_succ]
    refine' take_ 5 rfl (by kernel_rfl) (by kernel_rfl) (by kernel_rfl) (fun _ _ _ h => h) (by rfl) (fun wS hSw => ?_) hHeld ?_
    rotate_left
    focus (have s0 := row_at hSw 0 _ rfl; have s1 := row_at hSw 1 _ rfl; go_simp; (try with_reducible rfl); done)
    try simp only [Act.put, List.setIfInBounds_toArray, List.set_cons_zero, List.set_cons_succ]
    refine' take_ 6 rfl (by kernel_rfl) (by kernel_rfl) (by kernel_rfl) (fun _ _ _ h => h) (by rfl) (fun wS hSw => ?_) hHeld ?_
    rotate_left
    focus (go_simp; (try with_reducible rfl); done)
    try simp only [Act.put, List.setIfInBounds_toArray, List.set_cons_zero, List.set_cons_succ]
    refine only_ 7 rfl (by kernel_rfl) (by rfl) (fun K hK => ?_)
    go_simp
    refine (HM2.out _ hHeld).mono ?_
    rintro e w1 ⟨rfl, hB⟩
    have HR3 : Hid (QRow w1 (w.heap.size + 1) 24 0 [0, 0, 0, 0, 0, 0, 0, 0]) := Lib.hid (QRow.below (w := w2.drew) HR2.out hB HR2.out.lt)
    have HA3 : Hid (Below w.heap.size w w1) := Lib.hid (HA2.out.drew.trans (hB.mono HA2.out.size))
    have hH1 : QRow w1 w.heap.size 24 ((k : Int) + 1) [x, p1, p2, p3, p4, p5, p6, p7] := QRow.below (w := w2.drew) HQ2.out hB HQ2.out.lt
    clear hB
    go_simp
    refine hK.out _ _ (hH1) (fun hHeld2 => ?_)
    clear hK K hHeld
    have hHeld := hHeld2
    clear hHeld2
    try simp only [Act.put, List.setIfInBounds_toArray, List.set_cons_zero, List.set_cons_succ]
    refine' take_ 8 rfl (by kernel_rfl) (by kernel_rfl) (by kernel_rfl) (fun _ _ _ h => h) (by rfl) (fun wS hSw => ?_) hHeld ?_
    rotate_left
    focus (go_simp; (try with_reducible rfl); done)
    try simp only [Act.put, List.setIfInBounds_toArray, List.set_cons_zero, List.set_cons_succ]
    refine only_ 9 rfl (by kernel_rfl) (by rfl) (fun K hK => ?_)
    refine wp_store_q 24 _ _ rfl (w.heap.size + 1) rfl _ _ rfl (pad_length _) (by kernel_rfl) 24 _ _ (show QRow _ _ _ 0 [0, 0, 0, 0, 0, 0, 0, 0] from HR3.out) rfl ?_
    intro w3 HN HO3 HB3
    refine hK.out _ _ ((HO3.out _ (by omega)).trans hHeld) (fun hHeld2 => ?_)
    clear hK K hHeld
    have hHeld := hHeld2
    clear hHeld2
    try simp only [Act.put]
    refine' take_ 10 rfl (by kernel_rfl) (by kernel_rfl) (by kernel_rfl) (fun _ _ _ h => h) (by rfl) (fun wS hSw => ?_) hHeld ?_
    rotate_left
    focus (go_simp; (try with_reducible rfl); done)
    try simp only [Act.put, List.setIfInBounds_toArray, List.set_cons_zero, List.set_cons_succ]
    refine wpAnyH_done (by kernel_rfl) ?_ _
    refine NoPanic.normal ?_
    go_wp2
    have hlv := run_loadVar_q (P := Try.prog) w3 (w.heap.size + 1) 24 _ Try.underlying24 (by kernel_rfl) _ _ _ HN.out (pad_length _)
    exact bodyPost_ret (results_bqb Try.results29 _ _ _ _ _ _ _ rfl hlv rfl rfl) rfl ⟨rfl, HA3.out.trans (HB3.out.mono (by omega))⟩
end Go.Proofs.Ytgpgijdciaieaaa
