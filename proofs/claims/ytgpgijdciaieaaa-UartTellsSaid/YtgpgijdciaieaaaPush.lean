/-
  Push: by its contract: of any value and byte. Made by wip/genfifopush.py.
-/
import Derived.Test.YtgpgijdciaieaaaRight
namespace Go.Proofs.Ytgpgijdciaieaaa
open Go.RowKit
set_option linter.unusedVariables false
/-- What Push answers. -/
def pushV (l : List Nat) (b : Nat) : Value := if l.length = 8 then .tuple #[ofV l, .bool false] else .tuple #[ofV (l ++ [b]), .bool true]
theorem pushV_full {l : List Nat} {b : Nat} (h : l.length = 8) : pushV l b = .tuple #[ofV l, .bool false] := if_pos h
theorem pushV_room {l : List Nat} {b : Nat} (h : l.length < 8) : pushV l b = .tuple #[ofV (l ++ [b]), .bool true] := if_neg (by omega)
set_option maxRecDepth 100000 in
theorem push_any (n : Int) (bs : List Nat) (b : Nat) (w : World) (hb : bs.length = 8) (hn : -9223372036854775808 ≤ n) (hn' : n ≤ 9223372036854775807) :
    Calls Try.prog 25 #[qv n bs, .int .u8 b] w fun e w' => e = .returned (pushV (cutL n bs) b) ∧ Below w.heap.size w w' := by
  have hle := cutL_le n bs hb
  obtain ⟨L, hL⟩ : ∃ L, cutL n bs = L := ⟨_, rfl⟩
  rw [hL] at hle ⊢
  have HM : Hid (∀ W : World, Calls Try.prog 24 #[qv n bs] W fun e w' => e = .returned (qv (L.length : Nat) (pad L)) ∧ Below W.heap.size W w') := Lib.hid (fun W => by
    have h := mend_any n bs W hb hn hn'
    rw [hL, ofV_le L hle] at h
    exact h)
  clear hL
  obtain ⟨b0, b1, b2, b3, b4, b5, b6, b7, rfl⟩ := eight hb
  rw [qv_eq]
  obtain ⟨m, hm⟩ : ∃ m, L.length = m := ⟨_, rfl⟩
  obtain ⟨PL, hPL⟩ : ∃ PL, pad L = PL := ⟨_, rfl⟩
  have hP8 : Hid (PL.length = 8) := Lib.hid (by rw [← hPL]; exact pad_length L)
  rw [hm, hPL] at HM
  rcases Nat.lt_or_ge m 8 with h8 | h8
  · have hI := fun g w => run_index_arr g m w h8
    have hm8 : ¬ (m : Int) = 8 := by omega
    have hw : IntKind.i64.wrap ((m : Int) + 1) = (m : Int) + 1 := IntWalk.i64_in _ (by omega)
    go_enter Try.func25, Try.ntmps25
    go_wp2_with (first
      | (go_at_call 24; refine (HM.out _).mono ?_; rintro e w1 ⟨rfl, hB⟩
         have HQ1 : Hid (QRow w1 w.heap.size 24 n [b0, b1, b2, b3, b4, b5, b6, b7]) := Lib.hid (QRow.below (two_at0 _ _ _) hB (by simp; omega))
         have HR1 : Hid (QRow w1 (w.heap.size + 1) 24 0 [0, 0, 0, 0, 0, 0, 0, 0]) := Lib.hid (QRow.below (two_at _ _ _) hB (by simp))
         have HB1 : Hid (Below w.heap.size w w1) := Lib.hid ((two_below _ _ _).trans (hB.mono (by simp; omega)))
         clear hB)
      | ((with_reducible show wpList _ _ _ (⟨some 6, .load 24 (.tmp 2), _, _, _, _⟩ :: _) _ _); refine wpList_load_q rfl 24 _ rfl (w.heap.size) (by exact rfl) _ Try.underlying24 (by kernel_rfl) 24 _ _ (QRow.below (two_at0 _ _ _) (Below.refl (w.heap.size + 1) _) (by omega)) (rfl) ?_)
      | ((with_reducible show wpList _ _ _ (⟨none, .store 24 (.tmp 2) (.tmp 7), _, _, _, _⟩ :: _) _ _); refine wpList_store_q rfl 24 _ _ rfl (w.heap.size) (by exact rfl) _ _ (by exact rfl) (hP8.out) (by kernel_rfl) 24 _ _ (HQ1.out) (rfl) ?_; intro w2 HQ2 HO2 HB2
         have HR2 : Hid (QRow w2 (w.heap.size + 1) 24 0 [0, 0, 0, 0, 0, 0, 0, 0]) := Lib.hid ((HO2.out _ (by omega)).trans HR1.out)
         have HA2 : Hid (Below w.heap.size w w2) := Lib.hid (HB1.out.trans HB2.out)
         have q2 : w2.cell? ⟨w.heap.size, 0, none⟩ = some (.int .i64 m) := row_at HQ2.out 0 _ rfl
         clear HQ1 HR1 HB1 HO2 HB2)
      | ((with_reducible show wpList _ _ _ (⟨none, .store 5 (.tmp 16) (.tmp 14), _, _, _, _⟩ :: _) _ _); refine wpList_store_b rfl 5 _ _ rfl (w.heap.size) (m) (by exact rfl) (b) (by exact rfl) (by kernel_rfl) 24 _ _ (HQ2.out) (by have := hP8.out; omega) ?_; intro w3 HQ3 HO3 HB3
         have HR3 : Hid (QRow w3 (w.heap.size + 1) 24 0 [0, 0, 0, 0, 0, 0, 0, 0]) := Lib.hid ((HO3.out _ (by omega)).trans HR2.out)
         have HA3 : Hid (Below w.heap.size w w3) := Lib.hid (HA2.out.trans HB3.out)
         have q3 : w3.cell? ⟨w.heap.size, 0, none⟩ = some (.int .i64 m) := row_at HQ3.out 0 _ rfl
         clear HQ2 HR2 HA2 HO3 HB3)
      | ((with_reducible show wpList _ _ _ (⟨none, .store 3 (.tmp 20) (.tmp 19), _, _, _, _⟩ :: _) _ _); refine wpList_store_n rfl 3 _ _ rfl (w.heap.size) (by exact rfl) ((m : Int) + 1) (by exact rfl) (by kernel_rfl) 24 _ _ (HQ3.out) ?_; intro w4 HQ4 HO4 HB4
         have HR4 : Hid (QRow w4 (w.heap.size + 1) 24 0 [0, 0, 0, 0, 0, 0, 0, 0]) := Lib.hid ((HO4.out _ (by omega)).trans HR3.out)
         have HA4 : Hid (Below w.heap.size w w4) := Lib.hid (HA3.out.trans HB4.out)
         clear HQ3 HR3 HA3 HO4 HB4)
      | ((with_reducible show wpList _ _ _ (⟨some 21, .load 24 (.tmp 2), _, _, _, _⟩ :: _) _ _); refine wpList_load_q rfl 24 _ rfl (w.heap.size) (by exact rfl) _ Try.underlying24 (by kernel_rfl) 24 _ _ (HQ4.out) (by rw [List.length_set]; exact hP8.out) ?_)
      | ((with_reducible show wpList _ _ _ (⟨none, .store 24 (.tmp 4) (.tmp 21), _, _, _, _⟩ :: _) _ _); refine wpList_store_q rfl 24 _ _ rfl (w.heap.size + 1) (by exact rfl) _ _ (by exact rfl) (by rw [List.length_set]; exact hP8.out) (by kernel_rfl) 24 _ _ (HR4.out) (rfl) ?_; intro w5 HN HO5 HB5))
    have hlv := run_loadVar_q (P := Try.prog) w5 (w.heap.size + 1) 24 _ Try.underlying24 (by kernel_rfl) _ _ _ HN.out (by rw [List.length_set]; exact hP8.out)
    have hv : qv ((m : Int) + 1) (PL.set m b) = ofV (L ++ [b]) := by
      rw [ofV_le _ (by simp; omega), ← hPL, ← hm, pad_set L b (by omega)]
      congr 1
      simp
    rw [hv] at hlv
    rw [pushV_room (by omega)]
    exact bodyPost_ret (results_qb Try.results25 _ _ _ _ _ _ rfl hlv rfl) rfl ⟨rfl, HA4.out.trans (HB5.out.mono (by omega))⟩
  · obtain rfl : m = 8 := by omega
    go_enter Try.func25, Try.ntmps25
    go_wp2_with (first
      | (go_at_call 24; refine (HM.out _).mono ?_; rintro e w1 ⟨rfl, hB⟩
         have HQ1 : Hid (QRow w1 w.heap.size 24 n [b0, b1, b2, b3, b4, b5, b6, b7]) := Lib.hid (QRow.below (two_at0 _ _ _) hB (by simp; omega))
         have HR1 : Hid (QRow w1 (w.heap.size + 1) 24 0 [0, 0, 0, 0, 0, 0, 0, 0]) := Lib.hid (QRow.below (two_at _ _ _) hB (by simp))
         have HB1 : Hid (Below w.heap.size w w1) := Lib.hid ((two_below _ _ _).trans (hB.mono (by simp; omega)))
         clear hB)
      | ((with_reducible show wpList _ _ _ (⟨some 6, .load 24 (.tmp 2), _, _, _, _⟩ :: _) _ _); refine wpList_load_q rfl 24 _ rfl (w.heap.size) (by exact rfl) _ Try.underlying24 (by kernel_rfl) 24 _ _ (QRow.below (two_at0 _ _ _) (Below.refl (w.heap.size + 1) _) (by omega)) (rfl) ?_)
      | ((with_reducible show wpList _ _ _ (⟨none, .store 24 (.tmp 2) (.tmp 7), _, _, _, _⟩ :: _) _ _); refine wpList_store_q rfl 24 _ _ rfl (w.heap.size) (by exact rfl) _ _ (by exact rfl) (hP8.out) (by kernel_rfl) 24 _ _ (HQ1.out) (rfl) ?_; intro w2 HQ2 HO2 HB2
         have HR2 : Hid (QRow w2 (w.heap.size + 1) 24 0 [0, 0, 0, 0, 0, 0, 0, 0]) := Lib.hid ((HO2.out _ (by omega)).trans HR1.out)
         have HA2 : Hid (Below w.heap.size w w2) := Lib.hid (HB1.out.trans HB2.out)
         have q2 : w2.cell? ⟨w.heap.size, 0, none⟩ = some (.int .i64 8) := row_at HQ2.out 0 _ rfl
         clear HQ1 HR1 HB1 HO2 HB2)
      | ((with_reducible show wpList _ _ _ (⟨some 11, .load 24 (.tmp 2), _, _, _, _⟩ :: _) _ _); refine wpList_load_q rfl 24 _ rfl (w.heap.size) (by exact rfl) _ Try.underlying24 (by kernel_rfl) 24 _ _ (HQ2.out) (hP8.out) ?_)
      | ((with_reducible show wpList _ _ _ (⟨none, .store 24 (.tmp 4) (.tmp 11), _, _, _, _⟩ :: _) _ _); refine wpList_store_q rfl 24 _ _ rfl (w.heap.size + 1) (by exact rfl) _ _ (by exact rfl) (hP8.out) (by kernel_rfl) 24 _ _ (HR2.out) (rfl) ?_; intro w3 HN HO3 HB3))
    have hlv := run_loadVar_q (P := Try.prog) w3 (w.heap.size + 1) 24 _ Try.underlying24 (by kernel_rfl) _ _ _ HN.out hP8.out
    have hv : qv (8 : Int) PL = ofV L := by rw [ofV_le L hle, hm, hPL]; rfl
    rw [hv] at hlv
    rw [pushV_full hm]
    exact bodyPost_ret (results_qb Try.results25 _ _ _ _ _ _ rfl hlv rfl) rfl ⟨rfl, HA2.out.trans (HB3.out.mono (by omega))⟩
end Go.Proofs.Ytgpgijdciaieaaa
