/-
  The document's Ticks by their contracts. Made by wip/gentimerref.py.
-/
import Derived.Test.YtgibindoblhkeaaRtick
namespace Go.Proofs.Ytgibindoblhkeaa
open Go.RowKit
set_option linter.unusedVariables false
set_option maxHeartbeats 1000000 in
set_option maxRecDepth 100000 in
theorem rTicksT_any : TicksC 14 := by
  intro t n w h hn0 hn1
  unfold tv
  go_enter Try.func14, Try.ntmps14
  go_upto_region 1 with (fail)
  refine name_two (Q := fun X => Code.wp _ _ _ _ X) ?_
  intro W0 hq1 hq2 hB0
  have T0 := Lib.hid (Tw.new (t := t) 26 hq1 hq2 hB0)
  clear hq1 hq2 hB0
  obtain ⟨g, hg⟩ : ∃ g, w.heap.size = g := ⟨_, rfl⟩
  obtain ⟨r, hr⟩ : ∃ r, w.heap.size + 1 = r := ⟨_, rfl⟩
  rw [hr, hg] at T0 ⊢
  clear hr hg
  go_wp2_with fail
  go_loopw [6, 7] (fun av iv wr => ∃ k : Nat, k ≤ n.toNat ∧ av = .int .i64 (countT t k : Nat) ∧ iv = .int .i64 k ∧ Tw w wr g r 26 (ticksT t k)) (fun _ iv _ => n.toNat - (intOf iv).toNat)
  case atStart => exact ⟨0, by omega, rfl, rfl, T0.out⟩
  case round =>
    clear T0
    obtain ⟨k, hk, rfl, rfl, ht⟩ := hrel
    have T0 := Lib.hid ht
    have hok := ticksT_ok h k
    have hct := countT_le t k
    by_cases hlt : (k : Int) < n
    · have KT := Lib.hid (fun W => rTickT_any (ticksT t k) W hok)
      have HS : Hid (ticksT t (k + 1) = tickT (ticksT t k)) := Lib.hid rfl
      have HC : Hid (countT t (k + 1) = countT t k + (if asksT (ticksT t k) = true then 1 else 0)) := Lib.hid rfl
      clear ht hok
      generalize tickT (ticksT t k) = t2 at *
      generalize asksT (ticksT t k) = is at *
      generalize countT t k = ct at *
      generalize ticksT t k = t1 at *
      have d3 : (ct : Int) ≤ (k : Int) := by omega
      cases is
      · go_wp2_with (first
      | ((with_reducible show wpList _ _ _ (⟨none, .store 26 (.tmp 2) (.tmp 20), _, _, _, _⟩ :: _) _ _); refine wpList_store_t rfl 26 _ _ rfl g (by exact rfl) (by exact rfl) (by kernel_rfl) 26 T2.out.q ?_; intro WC HN HO HB
         have T3 : Hid (Tw w WC g r 26 t2) := Lib.hid (T2.out.setG HN.out HO.out HB.out)
         clear HN HO HB)
      | ((with_reducible show wpList _ _ _ (⟨some 20, .load 26 (.tmp 8), _, _, _, _⟩ :: _) _ _); refine wpList_load_t (by rfl) 26 _ rfl WA.heap.size (by exact rfl) _ Try.underlying26 (by kernel_rfl) 26 VR.out ?_)
      | ((with_reducible show wpList _ _ _ (⟨none, .store 26 (.tmp 8) (.tmp 18), _, _, _, _⟩ :: _) _ _); refine wpList_store_t rfl 26 _ _ rfl WA.heap.size (by exact rfl) (by exact rfl) (by kernel_rfl) 26 (show TRow _ _ _ ⟨0, 0, 0⟩ from alloc_at _ _) ?_; intro WB HN HO HB
         have T2 := Lib.hid (T1.out.under (((Below.refl _ _).alloc (Nat.le_refl _) _).trans HB.out))
         have VR : Hid (TRow WB WA.heap.size 26 t2) := HN
         clear HN HO HB)
      | (go_at_call 12; refine (KT.out _).mono ?_; rintro e WA ⟨rfl, hB⟩
         have T1 := Lib.hid (T0.out.under hB)
         clear hB)
      | ((with_reducible show wpList _ _ _ (⟨some 16, .load 26 (.tmp 2), _, _, _, _⟩ :: _) _ _); refine wpList_load_t (by rfl) 26 _ rfl g (by exact rfl) _ Try.underlying26 (by kernel_rfl) 26 T0.out.q ?_))
        go_roundw
        case rel => exact ⟨k + 1, by omega, by rw [HC.out]; rfl, by go_num, by rw [HS.out]; exact T3.out⟩
        case measure =>
          simp [intOf]
          omega
      · go_wp2_with (first
      | ((with_reducible show wpList _ _ _ (⟨none, .store 26 (.tmp 2) (.tmp 20), _, _, _, _⟩ :: _) _ _); refine wpList_store_t rfl 26 _ _ rfl g (by exact rfl) (by exact rfl) (by kernel_rfl) 26 T2.out.q ?_; intro WC HN HO HB
         have T3 : Hid (Tw w WC g r 26 t2) := Lib.hid (T2.out.setG HN.out HO.out HB.out)
         clear HN HO HB)
      | ((with_reducible show wpList _ _ _ (⟨some 20, .load 26 (.tmp 8), _, _, _, _⟩ :: _) _ _); refine wpList_load_t (by rfl) 26 _ rfl WA.heap.size (by exact rfl) _ Try.underlying26 (by kernel_rfl) 26 VR.out ?_)
      | ((with_reducible show wpList _ _ _ (⟨none, .store 26 (.tmp 8) (.tmp 18), _, _, _, _⟩ :: _) _ _); refine wpList_store_t rfl 26 _ _ rfl WA.heap.size (by exact rfl) (by exact rfl) (by kernel_rfl) 26 (show TRow _ _ _ ⟨0, 0, 0⟩ from alloc_at _ _) ?_; intro WB HN HO HB
         have T2 := Lib.hid (T1.out.under (((Below.refl _ _).alloc (Nat.le_refl _) _).trans HB.out))
         have VR : Hid (TRow WB WA.heap.size 26 t2) := HN
         clear HN HO HB)
      | (go_at_call 12; refine (KT.out _).mono ?_; rintro e WA ⟨rfl, hB⟩
         have T1 := Lib.hid (T0.out.under hB)
         clear hB)
      | ((with_reducible show wpList _ _ _ (⟨some 16, .load 26 (.tmp 2), _, _, _, _⟩ :: _) _ _); refine wpList_load_t (by rfl) 26 _ rfl g (by exact rfl) _ Try.underlying26 (by kernel_rfl) 26 T0.out.q ?_))
        go_roundw
        case rel => exact ⟨k + 1, by omega, by rw [HC.out]; rfl, by go_num, by rw [HS.out]; exact T3.out⟩
        case measure =>
          simp [intOf]
          omega
    · obtain rfl : k = n.toNat := by omega
      clear ht hok
      go_wp2_with (first
      | ((with_reducible show wpList _ _ _ (⟨none, .store 26 (.tmp 4) (.tmp 24), _, _, _, _⟩ :: _) _ _); refine wpList_store_t rfl 26 _ _ rfl r (by exact rfl) (by exact rfl) (by kernel_rfl) 26 T0.out.z ?_; intro WZ HN HO HB
         have HZ := HN
         have BZ := Lib.hid (T0.out.b.trans (HB.out.mono T0.out.lr))
         clear HN HO HB)
      | ((with_reducible show wpList _ _ _ (⟨some 24, .load 26 (.tmp 2), _, _, _, _⟩ :: _) _ _); refine wpList_load_t (by rfl) 26 _ rfl g (by exact rfl) _ Try.underlying26 (by kernel_rfl) 26 T0.out.q ?_))
      exact bodyPost_ret (v := .tuple #[tv (ticksT t n.toNat), .int .i64 (countT t n.toNat : Nat)]) (results_ct Try.results14 _ _ _ _ _ _ rfl (run_loadVar_t WZ r 26 _ Try.underlying26 (by kernel_rfl) 26 HZ.out) rfl) rfl ⟨rfl, BZ.out⟩
end Go.Proofs.Ytgibindoblhkeaa
