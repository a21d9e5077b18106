/-
  A register's methods by their contracts: they change the uart at their receiver. Made by wip/genuartok.py.
-/
import Derived.Test.YtgpgijdciaieaaaOkMend
namespace Go.Proofs.Ytgpgijdciaieaaa
open Go.RowKit
set_option linter.unusedVariables false
set_option maxRecDepth 100000 in
theorem takeByte_any {w X : World} {g r : Nat} {N M : Int} {p q : List Nat} {l : Bool} {c k : Nat} (hT : Tw w X g r 26 N p M q l c k) (x : Nat) (N' : Int) (p' : List Nat) (b : Bool) (hp' : p'.length = 8) (hx : x < 256)
    (hP : ∀ W : World, Calls Try.prog 29 #[qv N p] W fun e w' => e = .returned (.tuple #[.int .u8 x, qv N' p', .bool b]) ∧ Below W.heap.size W w') :
    Calls Try.prog 34 #[.pointer (some ⟨g, 0, none⟩)] X fun e w' => e = .returned (.int .i32 x) ∧ Tw w w' g r 26 N' p' M q l c k := by
  have HP := Lib.hid hP
  have HW : Hid (IntKind.i32.wrap (x : Int) = (x : Int)) := Lib.hid (by simp [IntKind.wrap, IntKind.bits, IntKind.signed]; omega)
  clear hP
  have T0 := Lib.hid hT
  clear hT
  go_enter Try.func34, Try.ntmps34
  go_wp2_with (first
      | ((with_reducible show wpList _ _ _ (⟨none, .store 24 (.tmp 18) (.tmp 16), _, _, _, _⟩ :: _) _ _); refine wpList_store_rx rfl 24 _ _ rfl g (by exact rfl) (by exact rfl) (by assumption) (by kernel_rfl) 26 T2.out.q ?_; intro WT3 HN HO HB
         have T3 := Lib.hid (T2.out.setG HN.out HO.out HB.out)
         clear HN HO HB T2)
      | ((with_reducible show wpList _ _ _ (⟨some 16, .load 24 (.tmp 4), _, _, _, _⟩ :: _) _ _); refine wpList_load_q rfl 24 _ rfl (WT1.heap.size) (by exact rfl) _ Try.underlying24 (by kernel_rfl) 24 _ _ HQ.out (by assumption) ?_)
      | ((with_reducible show wpList _ _ _ (⟨none, .store 24 (.tmp 4) (.tmp 13), _, _, _, _⟩ :: _) _ _); refine wpList_store_q rfl 24 _ _ rfl (WT1.heap.size) (by exact rfl) (N') (p') (by exact rfl) (by assumption) (by kernel_rfl) 24 _ _ (show QRow _ _ _ 0 Z8 from alloc_at _ _) rfl ?_; intro WT2 HN HO HB
         have HQ := HN
         have T2 := Lib.hid (T1.out.under (((Below.refl _ _).alloc (Nat.le_refl _) _).trans HB.out))
         have HS := Lib.hid (Nat.ne_of_lt T1.out.q.lt)
         clear HN HO HB T1)
      | (go_at_call 29; refine (HP.out _).mono ?_; rintro e WT1 ⟨rfl, hB⟩
         have T1 := Lib.hid (T0.out.under hB)
         clear hB T0)
      | ((with_reducible show wpList _ _ _ (⟨some 10, .load 24 (.tmp 9), _, _, _, _⟩ :: _) _ _); refine wpList_load_q9 rfl 24 _ rfl g 0 (by exact rfl) _ Try.underlying24 (by kernel_rfl) T0.out.q.rx T0.out.q.hb ?_))
  go_ret
  exact ⟨by first | rfl | (rw [HW.out]), T3.out⟩
set_option maxRecDepth 100000 in
theorem takeState_any {w X : World} {g r : Nat} {N M : Int} {p q : List Nat} {l : Bool} {c k : Nat} (hT : Tw w X g r 26 N p M q l c k) (R T : List Nat) (hN : N = (R.length : Int)) (hM : M = (T.length : Int)) :
    Calls Try.prog 35 #[.pointer (some ⟨g, 0, none⟩)] X fun e w' => e = .returned (.int .i32 (statU R T l)) ∧ Tw w w' g r 26 N p M q false c k := by
  have hr : (0 < N ∧ R ≠ []) ∨ (N = 0 ∧ R = []) := by
    rw [hN]
    cases R with
    | nil => exact .inr ⟨rfl, rfl⟩
    | cons y R => exact .inl ⟨by simp, by simp⟩
  have ht : (M = 8 ∧ T.length = 8) ∨ (M ≠ 8 ∧ T.length ≠ 8) := by
    rw [hM]
    omega
  have T0 := Lib.hid hT
  clear hT hN hM
  rcases hr with ⟨d1, e1⟩ | ⟨d1, e1⟩ <;> rcases ht with ⟨d2, e2⟩ | ⟨d2, e2⟩ <;> cases l
  · have HE : Hid (statU R T false = 3) := Lib.hid (by simp [statU, e1, e2])
    clear e1 e2
    subst d2
    have b0 := T0.out.q.n0
    have b9 := T0.out.q.n9
    have b18 := T0.out.q.c18
    go_enter Try.func35, Try.ntmps35
    go_wp2_with (first
        | ((with_reducible show wpList _ _ _ (⟨none, .store 4 (.tmp 28) _, _, _, _, _⟩ :: _) _ _); refine wpList_store_j rfl 4 _ _ rfl g 18 (by exact rfl) (.bool false) (by exact rfl) rfl (by kernel_rfl) 26 T0.out.q (by decide) (uc_set_l T0.out.q.hb T0.out.q.hc) T0.out.q.hb T0.out.q.hc ?_; intro WT1 HN HO HB
           have T1 := Lib.hid (T0.out.setG HN.out HO.out HB.out)
           clear HN HO HB T0))
    go_ret
    exact ⟨by rw [HE.out]; rfl, T1.out⟩
  · have HE : Hid (statU R T true = 7) := Lib.hid (by simp [statU, e1, e2])
    clear e1 e2
    subst d2
    have b0 := T0.out.q.n0
    have b9 := T0.out.q.n9
    have b18 := T0.out.q.c18
    go_enter Try.func35, Try.ntmps35
    go_wp2_with (first
        | ((with_reducible show wpList _ _ _ (⟨none, .store 4 (.tmp 28) _, _, _, _, _⟩ :: _) _ _); refine wpList_store_j rfl 4 _ _ rfl g 18 (by exact rfl) (.bool false) (by exact rfl) rfl (by kernel_rfl) 26 T0.out.q (by decide) (uc_set_l T0.out.q.hb T0.out.q.hc) T0.out.q.hb T0.out.q.hc ?_; intro WT1 HN HO HB
           have T1 := Lib.hid (T0.out.setG HN.out HO.out HB.out)
           clear HN HO HB T0))
    go_ret
    exact ⟨by rw [HE.out]; rfl, T1.out⟩
  · have HE : Hid (statU R T false = 1) := Lib.hid (by simp [statU, e1, e2])
    clear e1 e2
    have b0 := T0.out.q.n0
    have b9 := T0.out.q.n9
    have b18 := T0.out.q.c18
    go_enter Try.func35, Try.ntmps35
    go_wp2_with (first
        | ((with_reducible show wpList _ _ _ (⟨none, .store 4 (.tmp 28) _, _, _, _, _⟩ :: _) _ _); refine wpList_store_j rfl 4 _ _ rfl g 18 (by exact rfl) (.bool false) (by exact rfl) rfl (by kernel_rfl) 26 T0.out.q (by decide) (uc_set_l T0.out.q.hb T0.out.q.hc) T0.out.q.hb T0.out.q.hc ?_; intro WT1 HN HO HB
           have T1 := Lib.hid (T0.out.setG HN.out HO.out HB.out)
           clear HN HO HB T0))
    go_ret
    exact ⟨by rw [HE.out]; rfl, T1.out⟩
  · have HE : Hid (statU R T true = 5) := Lib.hid (by simp [statU, e1, e2])
    clear e1 e2
    have b0 := T0.out.q.n0
    have b9 := T0.out.q.n9
    have b18 := T0.out.q.c18
    go_enter Try.func35, Try.ntmps35
    go_wp2_with (first
        | ((with_reducible show wpList _ _ _ (⟨none, .store 4 (.tmp 28) _, _, _, _, _⟩ :: _) _ _); refine wpList_store_j rfl 4 _ _ rfl g 18 (by exact rfl) (.bool false) (by exact rfl) rfl (by kernel_rfl) 26 T0.out.q (by decide) (uc_set_l T0.out.q.hb T0.out.q.hc) T0.out.q.hb T0.out.q.hc ?_; intro WT1 HN HO HB
           have T1 := Lib.hid (T0.out.setG HN.out HO.out HB.out)
           clear HN HO HB T0))
    go_ret
    exact ⟨by rw [HE.out]; rfl, T1.out⟩
  · have HE : Hid (statU R T false = 2) := Lib.hid (by simp [statU, e1, e2])
    clear e1 e2
    subst d1
    subst d2
    have b0 := T0.out.q.n0
    have b9 := T0.out.q.n9
    have b18 := T0.out.q.c18
    go_enter Try.func35, Try.ntmps35
    go_wp2_with (first
        | ((with_reducible show wpList _ _ _ (⟨none, .store 4 (.tmp 28) _, _, _, _, _⟩ :: _) _ _); refine wpList_store_j rfl 4 _ _ rfl g 18 (by exact rfl) (.bool false) (by exact rfl) rfl (by kernel_rfl) 26 T0.out.q (by decide) (uc_set_l T0.out.q.hb T0.out.q.hc) T0.out.q.hb T0.out.q.hc ?_; intro WT1 HN HO HB
           have T1 := Lib.hid (T0.out.setG HN.out HO.out HB.out)
           clear HN HO HB T0))
    go_ret
    exact ⟨by rw [HE.out]; rfl, T1.out⟩
  · have HE : Hid (statU R T true = 6) := Lib.hid (by simp [statU, e1, e2])
    clear e1 e2
    subst d1
    subst d2
    have b0 := T0.out.q.n0
    have b9 := T0.out.q.n9
    have b18 := T0.out.q.c18
    go_enter Try.func35, Try.ntmps35
    go_wp2_with (first
        | ((with_reducible show wpList _ _ _ (⟨none, .store 4 (.tmp 28) _, _, _, _, _⟩ :: _) _ _); refine wpList_store_j rfl 4 _ _ rfl g 18 (by exact rfl) (.bool false) (by exact rfl) rfl (by kernel_rfl) 26 T0.out.q (by decide) (uc_set_l T0.out.q.hb T0.out.q.hc) T0.out.q.hb T0.out.q.hc ?_; intro WT1 HN HO HB
           have T1 := Lib.hid (T0.out.setG HN.out HO.out HB.out)
           clear HN HO HB T0))
    go_ret
    exact ⟨by rw [HE.out]; rfl, T1.out⟩
  · have HE : Hid (statU R T false = 0) := Lib.hid (by simp [statU, e1, e2])
    clear e1 e2
    subst d1
    have b0 := T0.out.q.n0
    have b9 := T0.out.q.n9
    have b18 := T0.out.q.c18
    go_enter Try.func35, Try.ntmps35
    go_wp2_with (first
        | ((with_reducible show wpList _ _ _ (⟨none, .store 4 (.tmp 28) _, _, _, _, _⟩ :: _) _ _); refine wpList_store_j rfl 4 _ _ rfl g 18 (by exact rfl) (.bool false) (by exact rfl) rfl (by kernel_rfl) 26 T0.out.q (by decide) (uc_set_l T0.out.q.hb T0.out.q.hc) T0.out.q.hb T0.out.q.hc ?_; intro WT1 HN HO HB
           have T1 := Lib.hid (T0.out.setG HN.out HO.out HB.out)
           clear HN HO HB T0))
    go_ret
    exact ⟨by rw [HE.out]; rfl, T1.out⟩
  · have HE : Hid (statU R T true = 4) := Lib.hid (by simp [statU, e1, e2])
    clear e1 e2
    subst d1
    have b0 := T0.out.q.n0
    have b9 := T0.out.q.n9
    have b18 := T0.out.q.c18
    go_enter Try.func35, Try.ntmps35
    go_wp2_with (first
        | ((with_reducible show wpList _ _ _ (⟨none, .store 4 (.tmp 28) _, _, _, _, _⟩ :: _) _ _); refine wpList_store_j rfl 4 _ _ rfl g 18 (by exact rfl) (.bool false) (by exact rfl) rfl (by kernel_rfl) 26 T0.out.q (by decide) (uc_set_l T0.out.q.hb T0.out.q.hc) T0.out.q.hb T0.out.q.hc ?_; intro WT1 HN HO HB
           have T1 := Lib.hid (T0.out.setG HN.out HO.out HB.out)
           clear HN HO HB T0))
    go_ret
    exact ⟨by rw [HE.out]; rfl, T1.out⟩
set_option maxRecDepth 100000 in
theorem control_any {w X : World} {g r : Nat} {N M : Int} {p q : List Nat} {l : Bool} {c k : Nat} (hT : Tw w X g r 26 N p M q l c k) (hc : c < 256) :
    Calls Try.prog 36 #[.pointer (some ⟨g, 0, none⟩)] X fun e w' => e = .returned (.int .i32 c) ∧ Tw w w' g r 26 N p M q l c k := by
  have HW : Hid (IntKind.i32.wrap (c : Int) = (c : Int)) := Lib.hid (by simp [IntKind.wrap, IntKind.bits, IntKind.signed]; omega)
  have T0 := Lib.hid hT
  clear hT
  have b19 := T0.out.q.c19
  go_enter Try.func36, Try.ntmps36
  go_wp2
  go_ret
  exact ⟨by first | rfl | (rw [HW.out]), T0.out⟩
set_option maxRecDepth 100000 in
theorem layByte_any {w X : World} {g r : Nat} {N M : Int} {p q : List Nat} {l : Bool} {c k : Nat} (hT : Tw w X g r 26 N p M q l c k) (x : Nat) (M' : Int) (q' : List Nat) (b : Bool) (hq' : q'.length = 8)
    (hP : ∀ W : World, Calls Try.prog 25 #[qv M q, .int .u8 x] W fun e w' => e = .returned (.tuple #[qv M' q', .bool b]) ∧ Below W.heap.size W w') :
    Calls Try.prog 37 #[.pointer (some ⟨g, 0, none⟩), .int .u8 x] X fun e w' => e = .returned (.tuple #[]) ∧ Tw w w' g r 26 N p M' q' l c k := by
  have HP := Lib.hid hP
  clear hP
  have T0 := Lib.hid hT
  clear hT
  go_enter Try.func37, Try.ntmps37
  go_wp2_with (first
      | ((with_reducible show wpList _ _ _ (⟨none, .store 24 (.tmp 15) (.tmp 12), _, _, _, _⟩ :: _) _ _); refine wpList_store_tx rfl 24 _ _ rfl g (by exact rfl) (by exact rfl) (by assumption) (by kernel_rfl) 26 T1.out.q ?_; intro WT2 HN HO HB
         have T2 := Lib.hid (T1.out.setG HN.out HO.out HB.out)
         clear HN HO HB T1)
      | (go_at_call 25; refine (HP.out _).mono ?_; rintro e WT1 ⟨rfl, hB⟩
         have T1 := Lib.hid (T0.out.under hB)
         clear hB T0)
      | ((with_reducible show wpList _ _ _ (⟨some 9, .load 24 (.tmp 8), _, _, _, _⟩ :: _) _ _); refine wpList_load_q9 rfl 24 _ rfl g 9 (by exact rfl) _ Try.underlying24 (by kernel_rfl) T0.out.q.tx T0.out.q.hc ?_))
  go_end0
  exact ⟨rfl, T2.out⟩
set_option maxRecDepth 100000 in
theorem setControl_any {w X : World} {g r : Nat} {N M : Int} {p q : List Nat} {l : Bool} {c k : Nat} (hT : Tw w X g r 26 N p M q l c k) (x : Nat) :
    Calls Try.prog 38 #[.pointer (some ⟨g, 0, none⟩), .int .u8 x] X fun e w' => e = .returned (.tuple #[]) ∧ Tw w w' g r 26 N p M q l x k := by
  have T0 := Lib.hid hT
  clear hT
  go_enter Try.func38, Try.ntmps38
  go_wp2_with (first
      | ((with_reducible show wpList _ _ _ (⟨none, .store 5 (.tmp 7) (.tmp 5), _, _, _, _⟩ :: _) _ _); refine wpList_store_j rfl 5 _ _ rfl g 19 (by exact rfl) (.int .u8 (x : Int)) (by exact rfl) rfl (by kernel_rfl) 26 T0.out.q (by decide) (uc_set_c T0.out.q.hb T0.out.q.hc) T0.out.q.hb T0.out.q.hc ?_; intro WT1 HN HO HB
         have T1 := Lib.hid (T0.out.setG HN.out HO.out HB.out)
         clear HN HO HB T0))
  go_end0
  exact ⟨rfl, T1.out⟩
end Go.Proofs.Ytgpgijdciaieaaa
