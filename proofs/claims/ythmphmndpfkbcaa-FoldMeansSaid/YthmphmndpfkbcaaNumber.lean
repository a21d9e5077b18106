/-
  The number that stands where an operator stood: number by its contract. Made by wip/genfoldnum.py.
-/
import Derived.Test.YthmphmndpfkbcaaUn
import Derived.Test.YthmphmndpfkbcaaSteps
import Derived.Deep.RegionHeld3
namespace Go.Proofs.Ythmphmndpfkbcaa
open Go.RowKit
abbrev exV (op at_ : Int) (name field : ByteArray) (n ty ref : Int) (A : Option Addr) (l c : Nat) : Value := .agg #[.int .i64 op, .int .i64 at_, .string name, .string field, .int .i64 n, .int .i64 ty, .int .i64 ref, .slice A l c]
set_option maxRecDepth 100000 in
theorem number_any (op at_ : Int) (name field : ByteArray) (n ty ref v : Int) (A : Option Addr) (l c : Nat) (w : World) (h1 : -2147483648 ≤ v) (h2 : v ≤ 2147483647) :
    Calls Try.prog 35 #[exV op at_ name field n ty ref A l c, .int .i32 v] w fun e w' => e = .returned (exV 0 at_ ⟨#[]⟩ ⟨#[]⟩ (wrapT ty v) ty 0 none 0 0) ∧ Below w.heap.size w w' := by
  unfold exV
  go_enter Try.func35, Try.ntmps35
  go_wp2_with fail
  have k1 : IntKind.i64.wrap v = v := IntWalk.i64_in _ (by omega)
  have k2 : IntKind.i64.wrap (wrapT ty v) = wrapT ty v := IntWalk.i64_in _ (by have h := wrapT_bd ty v; generalize wrapT ty v = z at *; omega)
  refine wp_region_noPanic ?_
  refine wp_region_held_drew (S := (fun W => W.cell? ⟨w.heap.size, 1, none⟩ = some (.int .i64 at_) ∧ W.cell? ⟨w.heap.size, 5, none⟩ = some (.int .i64 ty))) (by kernel_rfl) ⟨by go_simp, by go_simp⟩ (fun hHeld => ?_)
  refine' take_ 0 rfl (by kernel_rfl) (by kernel_rfl) (by kernel_rfl) (fun _ _ _ h => h) (by rfl) (fun wS hSw => ?_) hHeld ?_
  rotate_left
  focus (obtain ⟨s1, s2⟩ := hSw; go_simp; (try with_reducible rfl); done)
  try simp only [Act.put, List.setIfInBounds_toArray, List.set_cons_zero, List.set_cons_succ]
  refine' take_ 1 rfl (by kernel_rfl) (by kernel_rfl) (by kernel_rfl) (fun _ _ _ h => h) (by rfl) (fun wS hSw => ?_) hHeld ?_
  rotate_left
  focus (obtain ⟨s1, s2⟩ := hSw; go_simp; (try with_reducible rfl); done)
  try simp only [Act.put, List.setIfInBounds_toArray, List.set_cons_zero, List.set_cons_succ]
  refine' take_ 2 rfl (by kernel_rfl) (by kernel_rfl) (by kernel_rfl) (fun _ _ _ h => h) (by rfl) (fun wS hSw => ?_) hHeld ?_
  rotate_left
  focus (obtain ⟨s1, s2⟩ := hSw; go_simp; (try with_reducible rfl); done)
  try simp only [Act.put, List.setIfInBounds_toArray, List.set_cons_zero, List.set_cons_succ]
  refine' take_ 3 rfl (by kernel_rfl) (by kernel_rfl) (by kernel_rfl) (fun _ _ _ h => h) (by rfl) (fun wS hSw => ?_) hHeld ?_
  rotate_left
  focus (obtain ⟨s1, s2⟩ := hSw; go_simp; (try with_reducible rfl); done)
  try simp only [Act.put, List.setIfInBounds_toArray, List.set_cons_zero, List.set_cons_succ]
  refine' take_ 4 rfl (by kernel_rfl) (by kernel_rfl) (by kernel_rfl) (fun _ _ _ h => h) (by rfl) (fun wS hSw => ?_) hHeld ?_
  rotate_left
  focus (obtain ⟨s1, s2⟩ := hSw; go_simp; (try with_reducible rfl); done)
  try simp only [Act.put, List.setIfInBounds_toArray, List.set_cons_zero, List.set_cons_succ]
  refine' take_ 5 rfl (by kernel_rfl) (by kernel_rfl) (by kernel_rfl) (fun _ _ _ h => h) (by rfl) (fun wS hSw => ?_) hHeld ?_
  rotate_left
  focus (obtain ⟨s1, s2⟩ := hSw; go_simp; (try with_reducible rfl); done)
  try simp only [Act.put, List.setIfInBounds_toArray, List.set_cons_zero, List.set_cons_succ]
  refine' take_ 6 rfl (by kernel_rfl) (by kernel_rfl) (by kernel_rfl) (fun _ _ _ h => h) (by rfl) (fun wS hSw => ?_) hHeld ?_
  rotate_left
  focus (obtain ⟨s1, s2⟩ := hSw; go_simp; (try with_reducible rfl); done)
  try simp only [Act.put, List.setIfInBounds_toArray, List.set_cons_zero, List.set_cons_succ]
  refine' take_ 7 rfl (by kernel_rfl) (by kernel_rfl) (by kernel_rfl) (fun _ _ _ h => h) (by rfl) (fun wS hSw => ?_) hHeld ?_
  rotate_left
  focus (obtain ⟨s1, s2⟩ := hSw; go_simp; (try with_reducible rfl); done)
  try simp only [Act.put, List.setIfInBounds_toArray, List.set_cons_zero, List.set_cons_succ]
  refine only_ 8 rfl (by kernel_rfl) (by rfl) (fun K hK => ?_)
  go_simp
  refine (wrap_any _ _ _).mono ?_
  rintro e w1 ⟨rfl, rfl⟩
  go_simp
  refine hK.out _ _ ⟨by go_simp, by go_simp⟩ (fun hHeld2 => ?_)
  clear hK K hHeld
  have hHeld := hHeld2
  clear hHeld2
  try simp only [Act.put, List.setIfInBounds_toArray, List.set_cons_zero, List.set_cons_succ]
  refine' take_ 9 rfl (by kernel_rfl) (by kernel_rfl) (by kernel_rfl) (fun _ _ _ h => h) (by rfl) (fun wS hSw => ?_) hHeld ?_
  rotate_left
  focus (obtain ⟨s1, s2⟩ := hSw; go_simp; (try with_reducible rfl); done)
  try simp only [Act.put, List.setIfInBounds_toArray, List.set_cons_zero, List.set_cons_succ]
  refine' take_ 10 rfl (by kernel_rfl) (by kernel_rfl) (by kernel_rfl) (fun _ _ _ h => h) (by rfl) (fun wS hSw => ?_) hHeld ?_
  rotate_left
  focus (obtain ⟨s1, s2⟩ := hSw; go_simp; (try with_reducible rfl); done)
  try simp only [Act.put, List.setIfInBounds_toArray, List.set_cons_zero, List.set_cons_succ]
  refine only_ 11 rfl (by kernel_rfl) (by rfl) (fun K hK => ?_)
  go_simp
  refine hK.out _ _ ⟨by go_simp, by go_simp⟩ (fun hHeld2 => ?_)
  clear hK K hHeld
  have hHeld := hHeld2
  clear hHeld2
  try simp only [Act.put, List.setIfInBounds_toArray, List.set_cons_zero, List.set_cons_succ]
  refine wpAnyH_done (by kernel_rfl) ?_ _
  refine NoPanic.normal ?_
  go_wp2
  exact bodyPost_ret (v := exV 0 at_ ⟨#[]⟩ ⟨#[]⟩ (wrapT ty v) ty 0 none 0 0) (by simp [results, Try.results35, go_sem]) rfl ⟨rfl, (((Below.refl _ _).alloc (Nat.le_refl _) _).alloc (by simp) _).drew⟩
end Go.Proofs.Ythmphmndpfkbcaa
