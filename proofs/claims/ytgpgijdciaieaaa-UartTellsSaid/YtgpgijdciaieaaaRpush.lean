/-
  The document's own Push, Pop: by their contracts. Made by wip/genfiforpush.py.
-/
import Derived.Test.YtgpgijdciaieaaaRof
namespace Go.Proofs.Ytgpgijdciaieaaa
open Go.RowKit
set_option linter.unusedVariables false
theorem rOf_own (W : World) (B : Nat) (v : Value) (l : List Nat) (h : Own W B v l) : Calls Try.prog 40 #[v] W fun e w' => e = .returned (ofV l) ∧ Below W.heap.size W w' := by
  obtain ⟨A, c, rfl, hc, _, _, hr, _⟩ := h.form
  exact rOf_any A _ c _ W rfl hc hr
/-- Where a slice lies without its first element. -/
def cutA (g cap : Nat) : Option Addr := if cap = 1 then some ⟨g, 0, none⟩ else some ⟨g, 1, none⟩
theorem run_cut1 (g k cap : Nat) (hc : k + 1 ≤ cap) (W : World) : (Instr.sliceAt 32 (.slice (some ⟨g, 0, none⟩) (k + 1) cap) (some (.int .i64 1)) none none).run Try.prog W = .ok (.slice (cutA g cap) k (cap - 1)) W := by
  obtain ⟨i0, hi0, -, hz1, -⟩ := info_parts u8info
  have hsz : (sizeOf 5).run Try.prog W = .ok 1 W := by simp [sizeOf, typeInfo, hi0, hz1]
  have he : Try.prog.elem 32 = 5 := by kernel_rfl
  rw [run_sliceAt_slice W _ _ _ _ _ (by rw [he]; exact Try.underlying32), run_slice_l W _ _ _ _ (by rw [he]; exact Try.underlying32) _ _ (by omega) (by omega), he, hsz]
  simp only [Result.andThen_ok, sliced, cutA]
  have h1 : ((1 : Int).toNat) = 1 := rfl
  rw [h1]
  by_cases h : cap = 1
  · simp [h]
  · simp [h]
    unfold Addr.add
    split <;> simp_all
theorem rdb_cut {W : World} {g k cap B : Nat} {x : Nat} {r : List Nat} (h : RdB W B (some ⟨g, 0, none⟩) (x :: r)) (hk : r.length = k) (hc : k + 1 ≤ cap) : RdB W B (cutA g cap) r := by
  unfold cutA
  by_cases h1 : cap = 1
  · have : r = [] := List.eq_nil_of_length_eq_zero (by omega)
    subst this
    rw [if_pos h1]
    exact RdB.some_nil _ _ _
  · rw [if_neg h1]
    refine ⟨fun h => (by cases h), fun a ha _ => (by have h2 := h.low ⟨g, 0, none⟩ rfl (by simp); cases ha; exact h2), fun a ha j y hy => ?_⟩
    cases ha
    have e : (⟨g, 1, none⟩ : Addr).add j = (⟨g, 0, none⟩ : Addr).add (j + 1) := by
      unfold Addr.add
      split <;> split <;> simp_all <;> omega
    rw [e]
    exact h.cells _ rfl (j + 1) y hy
set_option maxRecDepth 100000 in
theorem rPush_any (n : Int) (bs : List Nat) (b : Nat) (w : World) (hb : bs.length = 8) (hn : -9223372036854775808 ≤ n) (hn' : n ≤ 9223372036854775807) :
    Calls Try.prog 31 #[qv n bs, .int .u8 b] w fun e w' => e = .returned (pushV (cutL n bs) b) ∧ Below w.heap.size w w' := by
  have hle := cutL_le n bs hb
  obtain ⟨L, hL⟩ : ∃ L, cutL n bs = L := ⟨_, rfl⟩
  rw [hL] at hle ⊢
  have HM : Hid (∀ W : World, Calls Try.prog 39 #[qv n bs] W fun e w' => ∃ v, e = .returned v ∧ Own w' (W.heap.size + 1) v L ∧ Below W.heap.size W w') := Lib.hid (fun W => by rw [← hL]; exact rAll_any n bs W hb hn hn')
  clear hL
  obtain ⟨i0, hi0, hz0, hz1, hz2⟩ := info_parts u8info
  have H9 := Lib.hid hz0
  have H10 := Lib.hid hz1
  have H11 := Lib.hid hz2
  have H12 := Lib.hid hi0
  clear hz0 hz1 hz2 hi0
  obtain ⟨b0, b1, b2, b3, b4, b5, b6, b7, rfl⟩ := eight hb
  rw [qv_eq]
  obtain ⟨m, hm⟩ : ∃ m, L.length = m := ⟨_, rfl⟩
  have HM2 := Lib.hid hm
  rcases Nat.lt_or_ge m 8 with h8 | h8
  · have hm8 : ¬ (m : Int) = 8 := by omega
    go_enter Try.func31, Try.ntmps31
    go_wp2_with (first
      | (go_at_call 39; refine (HM.out _).mono ?_; rintro e w1 ⟨v, rfl, hv, hB⟩
         have HR1 : Hid (QRow w1 (w.heap.size + 1) 44 0 [0, 0, 0, 0, 0, 0, 0, 0]) := Lib.hid (QRow.below (two_at _ _ _) hB (by simp))
         have HB1 : Hid (Below w.heap.size w w1) := Lib.hid ((two_below _ _ _).trans (hB.mono (by simp; omega)))
         have HV : Hid (Own w1 (w.heap.size + 2) v L) := Lib.hid (hv.mono (by simp))
         obtain ⟨A, c, rfl⟩ := own_form hv
         clear hB hv
         rw [HM2.out] at HV ⊢)
      | ((with_reducible show wpList _ _ _ (⟨some 7, .load 44 (.tmp 2), _, _, _, _⟩ :: _) _ _); refine wpList_load_q rfl 44 _ rfl (w.heap.size) (by exact rfl) _ Try.underlying44 (by kernel_rfl) 44 _ _ (QRow.below (two_at0 _ _ _) (Below.refl (w.heap.size + 1) _) (by omega)) (rfl) ?_)
      | (go_at_call 40; refine (rOf_own _ _ _ (L ++ [b]) HV.out).mono ?_; rintro e w2 ⟨rfl, hB⟩
         have HR2 : Hid (QRow w2 (w.heap.size + 1) 44 0 [0, 0, 0, 0, 0, 0, 0, 0]) := Lib.hid (QRow.below HR1.out hB HR1.out.lt)
         have HB2 : Hid (Below w.heap.size w w2) := Lib.hid (HB1.out.trans (hB.mono HB1.out.size))
         clear hB HB1 HR1 HV)
      | (at_builtin; go_must (refine wpList_append_blk _ rfl (.tmp 14) (.tmp 16) 32 rfl (w.heap.size + 2) 5 i0 (.int .u8 0) 1 1 Try.underlying32 H12.out H9.out H10.out H11.out rfl (by decide) (.slice A m c) m (bvals L) rfl (own_ne (by have h := HV.out; unfold Own at h; rw [HM2.out] at h; exact h) (gb_alloc _ none _) (by simp)) ⟨_, 0, none⟩ 1 1 [.int .u8 (b : Int)] rfl rfl (new_one _ _ _ _ rfl) (by simp [Value.oneCell']) (by simp only [maxLen]; omega) (by omega) (by have := HR1.out.lt; simp; omega) ?_; intro v3 w3 hown3 hg3 hb3; have HR3 : Hid (QRow w3 (w.heap.size + 1) 44 0 [0, 0, 0, 0, 0, 0, 0, 0]) := Lib.hid ((hg3.block _ (by have := HR1.out.lt; simp; omega) (fun e => by have := HV.out.lt _ e.symm; omega)).trans (QRow.below HR1.out ((Below.refl _ _).alloc (Nat.le_refl _) _) HR1.out.lt)); have HB3 : Hid (Below w.heap.size w w3) := Lib.hid (below_gb (HB1.out.alloc HB1.out.size _) hg3 (by have := HB1.out.size; simp; omega) (fun b hb => by have := (HV.out.lt b hb).1; omega)); have HV3 : Hid (Own w3 (w.heap.size + 2) v3 (L ++ [b])) := Lib.hid (by unfold Own; rw [List.length_append, HM2.out, ← bvals_append]; exact hown3); clear hown3 hg3 hb3 HV HB1 HR1; have HV := HV3; have HB1 := HB3; have HR1 := HR3; clear HV3 HB3 HR3))
      | ((with_reducible show wpList _ _ _ (⟨none, .store 44 (.tmp 4) (.tmp 18), _, _, _, _⟩ :: _) _ _); refine wpList_store_q rfl 44 _ _ rfl (w.heap.size + 1) (by exact rfl) _ _ (by exact rfl) (pad_length _) (by kernel_rfl) 44 _ _ (HR2.out) (rfl) ?_; intro w4 HN HO4 HB4))
    have hlv := run_loadVar_q (P := Try.prog) w4 (w.heap.size + 1) 44 _ Try.underlying44 (by kernel_rfl) _ _ _ HN.out (pad_length _)
    rw [pushV_room (by omega)]
    exact bodyPost_ret (v := .tuple #[ofV (L ++ [b]), .bool true]) (results_qb Try.results31 _ _ _ _ _ _ rfl hlv rfl) rfl ⟨rfl, HB2.out.trans (HB4.out.mono (by omega))⟩
  · obtain rfl : m = 8 := by omega
    go_enter Try.func31, Try.ntmps31
    go_wp2_with (first
      | (go_at_call 39; refine (HM.out _).mono ?_; rintro e w1 ⟨v, rfl, hv, hB⟩
         have HR1 : Hid (QRow w1 (w.heap.size + 1) 44 0 [0, 0, 0, 0, 0, 0, 0, 0]) := Lib.hid (QRow.below (two_at _ _ _) hB (by simp))
         have HB1 : Hid (Below w.heap.size w w1) := Lib.hid ((two_below _ _ _).trans (hB.mono (by simp; omega)))
         have HV : Hid (Own w1 (w.heap.size + 2) v L) := Lib.hid (hv.mono (by simp))
         obtain ⟨A, c, rfl⟩ := own_form hv
         clear hB hv
         rw [HM2.out] at HV ⊢)
      | ((with_reducible show wpList _ _ _ (⟨some 7, .load 44 (.tmp 2), _, _, _, _⟩ :: _) _ _); refine wpList_load_q rfl 44 _ rfl (w.heap.size) (by exact rfl) _ Try.underlying44 (by kernel_rfl) 44 _ _ (QRow.below (two_at0 _ _ _) (Below.refl (w.heap.size + 1) _) (by omega)) (rfl) ?_)
      | (go_at_call 40; refine (rOf_own _ _ _ (L) HV.out).mono ?_; rintro e w2 ⟨rfl, hB⟩
         have HR2 : Hid (QRow w2 (w.heap.size + 1) 44 0 [0, 0, 0, 0, 0, 0, 0, 0]) := Lib.hid (QRow.below HR1.out hB HR1.out.lt)
         have HB2 : Hid (Below w.heap.size w w2) := Lib.hid (HB1.out.trans (hB.mono HB1.out.size))
         clear hB HB1 HR1 HV)
      | ((with_reducible show wpList _ _ _ (⟨none, .store 44 (.tmp 4) (.tmp 13), _, _, _, _⟩ :: _) _ _); refine wpList_store_q rfl 44 _ _ rfl (w.heap.size + 1) (by exact rfl) _ _ (by exact rfl) (pad_length _) (by kernel_rfl) 44 _ _ (HR2.out) (rfl) ?_; intro w4 HN HO4 HB4))
    have hlv := run_loadVar_q (P := Try.prog) w4 (w.heap.size + 1) 44 _ Try.underlying44 (by kernel_rfl) _ _ _ HN.out (pad_length _)
    rw [pushV_full hm]
    exact bodyPost_ret (v := .tuple #[ofV L, .bool false]) (results_qb Try.results31 _ _ _ _ _ _ rfl hlv rfl) rfl ⟨rfl, HB2.out.trans (HB4.out.mono (by omega))⟩
end Go.Proofs.Ytgpgijdciaieaaa
