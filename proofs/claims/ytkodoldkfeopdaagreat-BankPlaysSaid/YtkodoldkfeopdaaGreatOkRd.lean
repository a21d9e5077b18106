/-
  What is read of the uart. Made by wip/genbankok.py.
-/
import Derived.Test.YtkodoldkfeopdaaGreatOkMeth
namespace Go.Proofs.YtkodoldkfeopdaaGreat
open Go.RowKit
set_option linter.unusedVariables false
set_option maxRecDepth 100000
theorem read_serial (b : Bk) (r : Int) (X : World) (g : Nat) (ty : TypeId) (fv : Value) (hfv : fv.oneCell' = true) (h : b.ok) (h0 : -9223372036854775808 ≤ r) (h1 : r ≤ 9223372036854775807) (hr : BRow X g ty b) :
    Calls Tryz.prog 111 #[.agg #[fv, .pointer (some ⟨g, 3, none⟩)], .int .i64 r] X fun x w' => x = .returned (.int .i32 (Ua.peekU b.R b.T b.l b.c r)) ∧ Wrt X w' g ty { b with R := Ua.readR b.R r, l := Ua.readL b.l r } := by
  have KK : Hid (∀ W : World, Calls Tryz.prog 78 #[.agg (ucs b).toArray, .int .i64 r] W fun x w' => x = .returned (.tuple #[.int .i32 (Ua.peekU b.R b.T b.l b.c r), .agg (ucs { b with R := Ua.readR b.R r, l := Ua.readL b.l r }).toArray]) ∧ Below W.heap.size W w') := Lib.hid (fun W => Ua.ru_read (l := b.l) Ua.uart_ok.read W h.u r h0 h1)
  have R0 := Lib.hid hr
  clear hr
  go_enter Tryz.func111, Tryz.ntmps111
  go_upto_region 1 with fail
  refine name_one (Q := fun X => Code.wp _ _ _ _ X) ?_
  intro W0 hq1 hB0 hz0
  have T0 : Hid (Dv X W0 X.heap.size g 145 ty [fv, .pointer (some ⟨g, 3, none⟩)] b) := Lib.hid ⟨hq1, R0.out.below hB0 R0.out.lt, hB0, rfl, R0.out.lt⟩
  clear hq1 hB0 hz0 R0
  have hb0 := T0.out.hp.c 1 _ rfl
  go_wp2_with (first
      | ((with_reducible show wpList _ _ _ (⟨none, .store 29 (.tmp 19) (.tmp 18), _, _, _, _⟩ :: _) _ _); refine wpList_store_dev (d := { b with R := Ua.readR b.R r, l := Ua.readL b.l r }) rfl 29 _ _ rfl g 3 (by exact rfl) (ucs { b with R := Ua.readR b.R r, l := Ua.readL b.l r }) (by exact rfl) (by rw [ucs_length]; kernel_rfl) (Ua.uc_one _ _ _ _ _ _ _) (by rw [ucs_length]; decide) (bc_ua _ _ _ _ _) ty T2.out.q ?_; intro WT3 HN HO HB
         have T3 := Lib.hid (T2.out.wrt HN.out HO.out HB.out)
         clear HN HO HB T2)
      | ((with_reducible show wpList _ _ _ (⟨some 18, .load 29 (.tmp 6), _, _, _, _⟩ :: _) _ _); refine wpList_load_v (by rfl) 29 _ rfl (WT1.heap.size) (by exact rfl) _ Tryz.underlying29 29 (ucs { b with R := Ua.readR b.R r, l := Ua.readL b.l r }) HD.out (by rw [ucs_length]; kernel_rfl) ?_)
      | ((with_reducible show wpList _ _ _ (⟨none, .store 29 (.tmp 6) (.tmp 15), _, _, _, _⟩ :: _) _ _); refine wpList_store_v rfl 29 _ _ rfl (WT1.heap.size) (by exact rfl) (ucs { b with R := Ua.readR b.R r, l := Ua.readL b.l r }) (by exact rfl) (by rw [ucs_length]; kernel_rfl) (Ua.uc_one _ _ _ _ _ _ _) 29 (ucs bare) (alloc_at _ _) (by rw [ucs_length, ucs_length]) ?_; intro WT2 HN HO HB
         have HD := HN
         have T2 := Lib.hid (T1.out.under (((Below.refl _ _).alloc (Nat.le_refl _) _).trans HB.out))
         have hb2 := T2.out.hp.c 1 _ rfl
         clear HN HO HB T1)
      | (go_at_call 78; refine (KK.out _).mono ?_; rintro e WT1 ⟨rfl, hB⟩
         have T1 := Lib.hid (T0.out.under hB)
         clear hB T0 hb0)
      | ((with_reducible show wpList _ _ _ (⟨some 11, .load 29 (.tmp 10), _, _, _, _⟩ :: _) _ _); refine wpList_load_dev (by rfl) 29 _ rfl g 3 (by exact rfl) _ Tryz.underlying29 (ucs b) (by rw [ucs_length]; kernel_rfl) T0.out.q.ua (.agg (ucs b).toArray) rfl ?_))
  go_ret
  exact ⟨rfl, T3.out⟩
end Go.Proofs.YtkodoldkfeopdaaGreat
