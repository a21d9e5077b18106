/-
  Right: by its contract: of any value.
-/
import Derived.Test.YtgpgijdciaieaaaMend
namespace Go.Proofs.Ytgpgijdciaieaaa
open Go.RowKit
set_option linter.unusedVariables false
theorem rightB_eq (n : Int) (bs : List Nat) : decide (n = ((min (cutL n bs).length 8 : Nat) : Int) ∧ bs = pad (cutL n bs)) = rightB n bs := rfl
set_option maxRecDepth 100000 in
theorem right_any (n : Int) (bs : List Nat) (w : World) (hb : bs.length = 8) (hn : -9223372036854775808 ≤ n) (hn' : n ≤ 9223372036854775807) :
    Calls Try.prog 10 #[qv n bs] w fun e w' => e = .returned (.bool (rightB n bs)) ∧ Below w.heap.size w w' := by
  have HM : Hid (∀ W : World, Calls Try.prog 24 #[qv n bs] W fun e w' => e = .returned (ofV (cutL n bs)) ∧ Below W.heap.size W w') := Lib.hid (fun W => mend_any n bs W hb hn hn')
  have HE : ∀ W : World, (binOp .eql 24 (qv n bs) (ofV (cutL n bs))).run Try.prog W = .ok (.bool (rightB n bs)) W := fun W => run_eql_q W n _ bs _ hb (pad_length _)
  have HG : ∀ (x y : Operand) (W : World), (eqGuard .eql 24 x y (qv n bs) (ofV (cutL n bs))).run Try.prog W = .ok () W := fun x y W => run_eqGuard_agg W _ _ _ _ _ _ Try.eqGuardType24
  obtain ⟨b0, b1, b2, b3, b4, b5, b6, b7, rfl⟩ := eight hb
  rw [qv_eq]
  have HR : Hid (∀ W : World, Below (w.heap.size + 1) (w.alloc (.cells #[.int .i64 n, .int .u8 (b0 : Int), .int .u8 (b1 : Int), .int .u8 (b2 : Int), .int .u8 (b3 : Int), .int .u8 (b4 : Int), .int .u8 (b5 : Int), .int .u8 (b6 : Int), .int .u8 (b7 : Int)] 24)) W → QRow W w.heap.size 24 n [b0, b1, b2, b3, b4, b5, b6, b7]) := Lib.hid (fun W hW => (QRow.al w n b0 b1 b2 b3 b4 b5 b6 b7 24).below hW (by omega))
  go_enter Try.func10, Try.ntmps10
  go_wp2_with (fail)
  refine wp_region_noPanic ?_
  refine wp_region_held_drew (S := fun W => Below (w.heap.size + 1) (w.alloc (.cells #[.int .i64 n, .int .u8 (b0 : Int), .int .u8 (b1 : Int), .int .u8 (b2 : Int), .int .u8 (b3 : Int), .int .u8 (b4 : Int), .int .u8 (b5 : Int), .int .u8 (b6 : Int), .int .u8 (b7 : Int)] 24)) W) (by kernel_rfl) ((Below.refl _ _).drew) (fun hHeld => ?_)
  refine' take_ 0 rfl (by kernel_rfl) (by kernel_rfl) (by kernel_rfl) (fun _ _ _ h => h) (by rfl) (fun wS hSw => run_load_q wS 24 _ _ rfl _ Try.underlying24 (by kernel_rfl) _ _ _ (HR.out _ hSw) rfl _ _ _ _ _) hHeld ?_
  try simp only [Act.put, List.setIfInBounds_toArray, List.set_cons_zero, List.set_cons_succ]
  refine' take_ 1 rfl (by kernel_rfl) (by kernel_rfl) (by kernel_rfl) (fun _ _ _ h => h) (by rfl) (fun wS hSw => run_load_q wS 24 _ _ rfl _ Try.underlying24 (by kernel_rfl) _ _ _ (HR.out _ hSw) rfl _ _ _ _ _) hHeld ?_
  try simp only [Act.put, List.setIfInBounds_toArray, List.set_cons_zero, List.set_cons_succ]
  refine only_ 2 rfl (by kernel_rfl) (by rfl) (fun K hK => ?_)
  go_simp
  refine (HM.out _).mono ?_
  rintro e w1 ⟨rfl, hB⟩
  go_simp
  refine hK.out _ _ (hHeld.trans (hB.mono (Nat.le_trans (by simp) hHeld.size))) (fun hHeld2 => ?_)
  clear hK K hHeld
  have hHeld := hHeld2
  clear hHeld2
  try simp only [Act.put, List.setIfInBounds_toArray, List.set_cons_zero, List.set_cons_succ]
  refine' take_ 3 rfl (by kernel_rfl) (by kernel_rfl) (by kernel_rfl) (fun _ _ _ h => h) (by rfl) (fun wS hSw => ?_) hHeld ?_
  rotate_left
  focus (go_simp; (try with_reducible rfl); done)
  try simp only [Act.put, List.setIfInBounds_toArray, List.set_cons_zero, List.set_cons_succ]
  refine' take_ 4 rfl (by kernel_rfl) (by kernel_rfl) (by kernel_rfl) (fun _ _ _ h => h) (by rfl) (fun wS hSw => ?_) hHeld ?_
  rotate_left
  focus (go_simp; (try with_reducible rfl); done)
  try simp only [Act.put, List.setIfInBounds_toArray, List.set_cons_zero, List.set_cons_succ]
  refine wpAnyH_done (by kernel_rfl) ?_ _
  refine NoPanic.normal ?_
  go_wp2
  go_ret
  exact ⟨rfl, ((Below.refl _ _).alloc (Nat.le_refl _) _).trans (hHeld.mono (by omega))⟩
end Go.Proofs.Ytgpgijdciaieaaa
