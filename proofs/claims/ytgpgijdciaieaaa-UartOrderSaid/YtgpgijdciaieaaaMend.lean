/-
  Mend, Right: by their contracts: of any value.
-/
import Derived.Test.YtgpgijdciaieaaaMade
namespace Go.Proofs.Ytgpgijdciaieaaa
open Go.RowKit
set_option linter.unusedVariables false
set_option maxRecDepth 100000 in
theorem mend_any (n : Int) (bs : List Nat) (w : World) (hb : bs.length = 8) (hn : -9223372036854775808 ≤ n) (hn' : n ≤ 9223372036854775807) :
    Calls Try.prog 24 #[qv n bs] w fun e w' => e = .returned (ofV (cutL n bs)) ∧ Below w.heap.size w w' := by
  have HL := Lib.hid (cutL_length n bs hb)
  have HM : Hid (∀ (W : World) (m : Nat), QRow W w.heap.size 24 n bs → (m : Int) = max 0 (min n 8) → Calls Try.prog 33 #[.slice (some ⟨w.heap.size, 1, none⟩) m 8] W fun e w' => e = .returned (ofV (cutL n bs)) ∧ Below W.heap.size W w') := Lib.hid (by
    intro W m hW hm
    have h := rdb_q hW 0 m
    have e : (bs.drop 0).take m = cutL n bs := by
      rw [List.drop_zero, cutL]
      by_cases h8 : n ≤ 8
      · rw [show m = n.toNat by omega]
      · rw [List.take_of_length_le (by omega), List.take_of_length_le (by omega)]
    rw [e] at h
    exact made_any _ m 8 _ W (by have := HL.out; omega) (by omega) h)
  obtain ⟨b0, b1, b2, b3, b4, b5, b6, b7, rfl⟩ := eight hb
  rw [qv_eq]
  have C : n ≤ 0 ∨ 8 < n ∨ ∃ k : Nat, n = k ∧ 1 ≤ k ∧ k ≤ 8 := by
    rcases Int.lt_or_le n 1 with h | h
    · exact .inl (by omega)
    · rcases Int.lt_or_le 8 n with h2 | h2
      · exact .inr (.inl h2)
      · exact .inr (.inr ⟨n.toNat, by omega, by omega, by omega⟩)
  rcases C with h0 | h8 | ⟨k, rfl, hk1, hk8⟩
  · go_enter Try.func24, Try.ntmps24
    go_wp2_with (first
      | (go_at_call 33; refine (HM.out _ _ (two_at0 _ _ _) (by omega)).mono ?_; rintro e w1 ⟨rfl, hB⟩
         have HR : Hid (QRow w1 (w.heap.size + 1) 24 0 [0, 0, 0, 0, 0, 0, 0, 0]) := Lib.hid (QRow.below (two_at _ _ _) hB (by simp))
         have HB : Hid (Below w.heap.size w w1) := Lib.hid ((two_below _ _ _).trans (hB.mono (by simp; omega)))
         clear hB)
      | ((with_reducible show wpList _ _ _ (⟨none, .store 24 (.tmp 2) (.tmp 11), _, _, _, _⟩ :: _) _ _); refine wpList_store_q rfl 24 _ _ rfl (w.heap.size + 1) (by exact rfl) _ _ (by exact rfl) (pad_length _) (by kernel_rfl) 24 _ _ HR.out rfl ?_; intro w4 HN HO HB4))
    have hlv := run_loadVar_q (P := Try.prog) w4 (w.heap.size + 1) 24 _ Try.underlying24 (by kernel_rfl) _ _ _ HN.out (pad_length _)
    exact bodyPost_ret (v := ofV _) (results_q Try.results24 _ _ _ _ _ rfl hlv) rfl ⟨rfl, HB.out.trans (HB4.out.mono (by omega))⟩
  · go_enter Try.func24, Try.ntmps24
    go_wp2_with (first
      | (go_at_call 33; refine (HM.out _ _ (two_at0 _ _ _) (by omega)).mono ?_; rintro e w1 ⟨rfl, hB⟩
         have HR : Hid (QRow w1 (w.heap.size + 1) 24 0 [0, 0, 0, 0, 0, 0, 0, 0]) := Lib.hid (QRow.below (two_at _ _ _) hB (by simp))
         have HB : Hid (Below w.heap.size w w1) := Lib.hid ((two_below _ _ _).trans (hB.mono (by simp; omega)))
         clear hB)
      | ((with_reducible show wpList _ _ _ (⟨none, .store 24 (.tmp 2) (.tmp 11), _, _, _, _⟩ :: _) _ _); refine wpList_store_q rfl 24 _ _ rfl (w.heap.size + 1) (by exact rfl) _ _ (by exact rfl) (pad_length _) (by kernel_rfl) 24 _ _ HR.out rfl ?_; intro w4 HN HO HB4))
    have hlv := run_loadVar_q (P := Try.prog) w4 (w.heap.size + 1) 24 _ Try.underlying24 (by kernel_rfl) _ _ _ HN.out (pad_length _)
    exact bodyPost_ret (v := ofV _) (results_q Try.results24 _ _ _ _ _ rfl hlv) rfl ⟨rfl, HB.out.trans (HB4.out.mono (by omega))⟩
  · have HS := fun g w => run_slice_to g k w hk8
    go_enter Try.func24, Try.ntmps24
    go_wp2_with (first
      | (go_at_call 33; refine (HM.out _ _ (two_at0 _ _ _) (by omega)).mono ?_; rintro e w1 ⟨rfl, hB⟩
         have HR : Hid (QRow w1 (w.heap.size + 1) 24 0 [0, 0, 0, 0, 0, 0, 0, 0]) := Lib.hid (QRow.below (two_at _ _ _) hB (by simp))
         have HB : Hid (Below w.heap.size w w1) := Lib.hid ((two_below _ _ _).trans (hB.mono (by simp; omega)))
         clear hB)
      | ((with_reducible show wpList _ _ _ (⟨none, .store 24 (.tmp 2) (.tmp 11), _, _, _, _⟩ :: _) _ _); refine wpList_store_q rfl 24 _ _ rfl (w.heap.size + 1) (by exact rfl) _ _ (by exact rfl) (pad_length _) (by kernel_rfl) 24 _ _ HR.out rfl ?_; intro w4 HN HO HB4))
    have hlv := run_loadVar_q (P := Try.prog) w4 (w.heap.size + 1) 24 _ Try.underlying24 (by kernel_rfl) _ _ _ HN.out (pad_length _)
    exact bodyPost_ret (v := ofV _) (results_q Try.results24 _ _ _ _ _ rfl hlv) rfl ⟨rfl, HB.out.trans (HB4.out.mono (by omega))⟩
end Go.Proofs.Ytgpgijdciaieaaa
