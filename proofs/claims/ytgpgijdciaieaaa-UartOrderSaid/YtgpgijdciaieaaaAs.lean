/-
  as, small: by their contracts.
-/
import Derived.Test.YtgpgijdciaieaaaEq
namespace Go.Proofs.Ytgpgijdciaieaaa
open Go.RowKit
set_option linter.unusedVariables false
abbrev u21 (n : Int) (b0 b1 b2 b3 b4 b5 b6 b7 : Nat) (m : Int) (c0 c1 c2 c3 c4 c5 c6 c7 : Nat) (l : Bool) (c k : Nat) : Value := .agg #[.int .i64 n, .int .u8 (b0 : Int), .int .u8 (b1 : Int), .int .u8 (b2 : Int), .int .u8 (b3 : Int), .int .u8 (b4 : Int), .int .u8 (b5 : Int), .int .u8 (b6 : Int), .int .u8 (b7 : Int), .int .i64 m, .int .u8 (c0 : Int), .int .u8 (c1 : Int), .int .u8 (c2 : Int), .int .u8 (c3 : Int), .int .u8 (c4 : Int), .int .u8 (c5 : Int), .int .u8 (c6 : Int), .int .u8 (c7 : Int), .bool l, .int .u8 (c : Int), .int .u8 (k : Int)]
theorem uv_eq (n : Int) (b0 b1 b2 b3 b4 b5 b6 b7 : Nat) (m : Int) (c0 c1 c2 c3 c4 c5 c6 c7 : Nat) (l : Bool) (c k : Nat) : uv n [b0, b1, b2, b3, b4, b5, b6, b7] m [c0, c1, c2, c3, c4, c5, c6, c7] l c k = u21 n b0 b1 b2 b3 b4 b5 b6 b7 m c0 c1 c2 c3 c4 c5 c6 c7 l c k := rfl
set_option maxHeartbeats 1000000 in
set_option maxRecDepth 100000 in
theorem as_any (n : Int) (bs : List Nat) (m : Int) (cs : List Nat) (l : Bool) (c k : Nat) (w : World) (hb : bs.length = 8) (hc : cs.length = 8) :
    Calls Try.prog 17 #[uv n bs m cs l c k] w fun e w' => e = .returned (uv n bs m cs l c k) ∧ Below w.heap.size w w' := by
  obtain ⟨b0, b1, b2, b3, b4, b5, b6, b7, rfl⟩ := eight hb
  obtain ⟨c0, c1, c2, c3, c4, c5, c6, c7, rfl⟩ := eight hc
  rw [uv_eq]
  go_enter Try.func17, Try.ntmps17
  go_wp2_with ((with_reducible show wpList _ _ _ (⟨none, .store 46 (.tmp 2) (.tmp 23), _, _, _, _⟩ :: _) _ _); refine wpList_store_u (n' := n) (bs' := [b0, b1, b2, b3, b4, b5, b6, b7]) (m' := m) (cs' := [c0, c1, c2, c3, c4, c5, c6, c7]) (l' := l) (c' := c) (k' := k) rfl 46 _ _ rfl (w.heap.size + 1) (by exact rfl) (by exact rfl) rfl rfl (by kernel_rfl) 46 (show URow _ _ _ 0 Z8 0 Z8 false 0 0 from ⟨two_at _ _ _, rfl, rfl⟩) ?_; intro w4 HN HO4 HB4)
  have hlv := run_loadVar_u (P := Try.prog) w4 (w.heap.size + 1) 46 _ Try.underlying46 (by kernel_rfl) _ HN.out
  exact bodyPost_ret (results_q Try.results17 _ _ _ _ _ rfl hlv) rfl ⟨rfl, (two_below _ _ _).trans (HB4.out.mono (by omega))⟩
/-- small's number. -/
def smN (n : Int) : Int := ((lowN n % 10 : Nat) : Int)
set_option maxRecDepth 100000 in
theorem small_any (n : Int) (bs : List Nat) (m : Int) (cs : List Nat) (l : Bool) (c k : Nat) (w : World) (hb : bs.length = 8) (hc : cs.length = 8) :
    Calls Try.prog 8 #[uv n bs m cs l c k] w fun e w' => e = .returned (uv (smN n) bs (smN m) cs l c (k % 6)) ∧ Below w.heap.size w w' := by
  have HV : Hid (n % 256 % 10 = ((lowN n % 10 : Nat) : Int)) := Lib.hid (by rw [← lowN_cast]; omega)
  have HM : Hid (m % 256 % 10 = ((lowN m % 10 : Nat) : Int)) := Lib.hid (by rw [← lowN_cast]; omega)
  have HK : Hid ((k : Int).tmod 6 = ((k % 6 : Nat) : Int)) := Lib.hid (by rw [Int.tmod_eq_emod_of_nonneg (by omega)]; omega)
  have HK2 : Hid ((k : Int) % 6 = ((k % 6 : Nat) : Int)) := Lib.hid (by omega)
  unfold uv smN
  go_enter Try.func8, Try.ntmps8
  go_upto_region 1 with (fail)
  refine name_two (Q := fun X => Code.wp _ _ _ _ X) ?_
  intro W0 hq1 hq2 hB0
  have T0 := Lib.hid (Tw.new hb hc 26 hq1 hq2 hB0)
  clear hq1 hq2 hB0
  obtain ⟨g, hg⟩ : ∃ g, w.heap.size = g := ⟨_, rfl⟩
  obtain ⟨r, hr⟩ : ∃ r, w.heap.size + 1 = r := ⟨_, rfl⟩
  rw [hr, hg] at T0 ⊢
  clear hr hg
  have c0 := T0.out.q.n0
  go_wp2_with (first
      | ((with_reducible show wpList _ _ _ (⟨none, .store 26 (.tmp 2) (.tmp 23), _, _, _, _⟩ :: _) _ _); refine wpList_store_u rfl 26 _ _ rfl r (by exact rfl) (by exact rfl) T3.out.q.hb T3.out.q.hc (by kernel_rfl) 26 T3.out.z ?_; intro WZ HN HO HB
         have HZ := HN
         have BZ := Lib.hid (T3.out.b.trans (HB.out.mono T3.out.lr))
         clear HN HO HB)
      | ((with_reducible show wpList _ _ _ (⟨some 23, .load 26 (.tmp 1), _, _, _, _⟩ :: _) _ _); refine wpList_load_u (by rfl) 26 _ rfl g (by exact rfl) _ Try.underlying26 (by kernel_rfl) 26 T3.out.q ?_)
      | ((with_reducible show wpList _ _ _ (⟨none, .store 5 (.tmp 22) (.tmp 21), _, _, _, _⟩ :: _) _ _); refine wpList_store_j rfl 5 _ _ rfl g 20 (by exact rfl) (.int .u8 ((k % 6 : Nat) : Int)) (by first | exact rfl | (rw [← HK.out]; exact rfl) | (rw [← HK2.out]; exact rfl)) rfl (by kernel_rfl) 26 T2.out.q (by decide) (uc_set_k T2.out.q.hb T2.out.q.hc) T2.out.q.hb T2.out.q.hc ?_; intro WT3 HN HO HB
         have T3 := Lib.hid (T2.out.setG HN.out HO.out HB.out)
         clear HN HO HB T2)
      | ((with_reducible show wpList _ _ _ (⟨none, .store 3 (.tmp 18) (.tmp 16), _, _, _, _⟩ :: _) _ _); refine wpList_store_j rfl 3 _ _ rfl g 9 (by exact rfl) (.int .i64 ((lowN m % 10 : Nat) : Int)) (by first | exact rfl | (rw [← HM.out]; exact rfl)) rfl (by kernel_rfl) 26 T1.out.q (by decide) (uc_set_m T1.out.q.hb) T1.out.q.hb T1.out.q.hc ?_; intro WT2 HN HO HB
         have T2 := Lib.hid (T1.out.setG HN.out HO.out HB.out)
         have c20 := T2.out.q.c20
         clear HN HO HB T1)
      | ((with_reducible show wpList _ _ _ (⟨none, .store 3 (.tmp 10) (.tmp 8), _, _, _, _⟩ :: _) _ _); refine wpList_store_j rfl 3 _ _ rfl g 0 (by exact rfl) (.int .i64 ((lowN n % 10 : Nat) : Int)) (by first | exact rfl | (rw [← HV.out]; exact rfl)) rfl (by kernel_rfl) 26 T0.out.q (by decide) (uc_set_n) T0.out.q.hb T0.out.q.hc ?_; intro WT1 HN HO HB
         have T1 := Lib.hid (T0.out.setG HN.out HO.out HB.out)
         have c9 := T1.out.q.n9
         clear HN HO HB T0))
  exact bodyPost_ret (v := uv ((lowN n % 10 : Nat) : Int) bs ((lowN m % 10 : Nat) : Int) cs l c (k % 6)) (results_c Try.results8 _ _ _ _ _ rfl (run_loadVar_u WZ r 26 _ Try.underlying26 (by kernel_rfl) 26 HZ.out)) rfl ⟨rfl, BZ.out⟩
end Go.Proofs.Ytgpgijdciaieaaa
