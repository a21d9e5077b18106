/-
  The document's own Of, Mend: by their contracts. Made by wip/genfiforof.py.
-/
import Derived.Test.YtgpgijdciaieaaaGrow
namespace Go.Proofs.Ytgpgijdciaieaaa
open Go.RowKit
set_option linter.unusedVariables false
theorem pad_take (l : List Nat) (N : Nat) (h : N = min l.length 8) : pad (l.take N) = pad l := by
  subst h
  by_cases h8 : l.length ≤ 8
  · rw [List.take_of_length_le (by omega)]
  · rw [show min l.length 8 = 8 by omega]
    unfold pad
    rw [List.take_take, List.length_take, Nat.min_self, show 8 - min 8 l.length = 8 - l.length by omega]
theorem pad_next (l : List Nat) (k x : Nat) (hx : l[k]? = some x) (hk : k < 8) : (pad (l.take k)).set k x = pad (l.take (k + 1)) := by
  have hkl := (List.getElem?_eq_some_iff.1 hx).1
  have h1 : (l.take k).length = k := by rw [List.length_take]; omega
  have h2 := pad_set (l.take k) x (by omega)
  rw [h1] at h2
  rw [h2, List.take_add_one, hx]
  rfl
set_option maxRecDepth 100000 in
theorem rOf_any (A : Option Addr) (n c : Nat) (l : List Nat) (w : World) (hl : l.length = n) (hc : n ≤ c) (hA : RdB w w.heap.size A l) :
    Calls Try.prog 40 #[.slice A n c] w fun e w' => e = .returned (ofV l) ∧ Below w.heap.size w w' := by
  obtain ⟨N, hN⟩ : ∃ N, min l.length 8 = N := ⟨_, rfl⟩
  have HPN := Lib.hid (pad_take l N hN.symm)
  go_enter Try.func40, Try.ntmps40
  go_wp2_with fail
  go_loopw [4] (fun iv wr => ∃ k : Nat, k ≤ N ∧ iv = .int .i64 k ∧ QRow wr (w.heap.size + 1) 44 k (pad (l.take k)) ∧ QRow wr w.heap.size 44 0 [0, 0, 0, 0, 0, 0, 0, 0] ∧ Below w.heap.size w wr) (fun iv _ => N - (intOf iv).toNat)
  case atStart => exact ⟨0, by omega, rfl, two_at _ _ _, two_at0 _ _ _, two_below _ _ _⟩
  case round =>
    obtain ⟨k, hk, rfl, hq, hr, hbr⟩ := hrel
    have HBR := Lib.hid hbr
    have HQ := Lib.hid hq
    have HR := Lib.hid hr
    have cn : wr.cell? ⟨w.heap.size + 1, 0, none⟩ = some (.int .i64 k) := row_at hq 0 _ rfl
    clear hbr hq hr
    by_cases hlt : k < N
    · obtain ⟨x, hx⟩ : ∃ x, l[k]? = some x := ⟨_, List.getElem?_eq_getElem (by omega)⟩
      obtain ⟨a, rfl⟩ : ∃ a, A = some a := by
        cases A with
        | none => rw [hA.none_ rfl] at hx; simp at hx
        | some a => exact ⟨a, rfl⟩
      have hcx := (hA.below HBR.out (Nat.le_refl _)).cells a rfl k x hx
      have HX := Lib.hid hx
      have hI := fun g w => run_index_arr g k w (by omega)
      have d1 : (k : Int) < 8 := by omega
      have d2 : (k : Int) < n := by omega
      have hw : IntKind.i64.wrap ((k : Int) + 1) = (k : Int) + 1 := IntWalk.i64_in _ (by omega)
      have HPL : Hid ((pad (l.take k)).length = 8) := Lib.hid (pad_length _)
      have HPX : Hid ((pad (l.take k)).set k x = pad (l.take (k + 1))) := Lib.hid (pad_next l k x hx (by omega))
      clear hx
      go_wp2_with (first
      | ((with_reducible show wpList _ _ _ (⟨none, .store 5 (.tmp 21) (.tmp 19), _, _, _, _⟩ :: _) _ _); refine wpList_store_b rfl 5 _ _ rfl (w.heap.size + 1) (k) (by exact rfl) (x) (by exact rfl) (by kernel_rfl) 44 _ _ (HQ.out) (by have := HPL.out; omega) ?_; intro w3 HQ3 HO3 HB3
         have HR3 : Hid (QRow w3 w.heap.size 44 0 [0, 0, 0, 0, 0, 0, 0, 0]) := Lib.hid ((HO3.out _ (by omega)).trans HR.out)
         have HA3 : Hid (Below w.heap.size w w3) := Lib.hid (HBR.out.trans (HB3.out.mono (by omega)))
         have q3 : w3.cell? ⟨w.heap.size + 1, 0, none⟩ = some (.int .i64 k) := row_at HQ3.out 0 _ rfl
         clear HQ HR HBR HO3 HB3)
      | ((with_reducible show wpList _ _ _ (⟨none, .store 3 (.tmp 25) (.tmp 24), _, _, _, _⟩ :: _) _ _); refine wpList_store_n rfl 3 _ _ rfl (w.heap.size + 1) (by exact rfl) ((k : Int) + 1) (by exact rfl) (by kernel_rfl) 44 _ _ (HQ3.out) ?_; intro w4 HQ4 HO4 HB4
         have HR4 : Hid (QRow w4 w.heap.size 44 0 [0, 0, 0, 0, 0, 0, 0, 0]) := Lib.hid ((HO4.out _ (by omega)).trans HR3.out)
         have HA4 : Hid (Below w.heap.size w w4) := Lib.hid (HA3.out.trans (HB4.out.mono (by omega)))
         clear HQ3 HR3 HA3 HO4 HB4))
      go_roundw
      case rel => exact ⟨k + 1, by omega, by go_num, by have h := HQ4.out; rw [HPX.out] at h; exact h, HR4.out, HA4.out⟩
      case measure =>
        simp [intOf]
        omega
    · obtain rfl : k = N := by omega
      have hv : qv (k : Int) (pad l) = ofV l := by rw [ofV, hN]
      rw [HPN.out] at HQ
      have HP8 := Lib.hid (pad_length l)
      clear hlt
      by_cases d : k < 8
      · have d1 : (k : Int) < 8 := by omega
        have d2 : ¬ (k : Int) < n := by omega
        go_wp2_with (first
      | ((with_reducible show wpList _ _ _ (⟨some 26, .load 44 (.tmp 3), _, _, _, _⟩ :: _) _ _); refine wpList_load_q rfl 44 _ rfl (w.heap.size + 1) (by exact rfl) _ Try.underlying44 (by kernel_rfl) 44 _ _ (HQ.out) (HP8.out) ?_)
      | ((with_reducible show wpList _ _ _ (⟨none, .store 44 (.tmp 2) (.tmp 26), _, _, _, _⟩ :: _) _ _); refine wpList_store_q rfl 44 _ _ rfl (w.heap.size) (by exact rfl) _ _ (by exact rfl) (HP8.out) (by kernel_rfl) 44 _ _ (HR.out) (rfl) ?_; intro w4 HN HO4 HB4))
        have hlv := run_loadVar_q (P := Try.prog) w4 w.heap.size 44 _ Try.underlying44 (by kernel_rfl) _ _ _ HN.out HP8.out
        rw [hv] at hlv
        exact bodyPost_ret (results_q Try.results40 _ _ _ _ _ rfl hlv) rfl ⟨rfl, HBR.out.trans HB4.out⟩
      · have d1 : ¬ (k : Int) < 8 := by omega
        go_wp2_with (first
      | ((with_reducible show wpList _ _ _ (⟨some 26, .load 44 (.tmp 3), _, _, _, _⟩ :: _) _ _); refine wpList_load_q rfl 44 _ rfl (w.heap.size + 1) (by exact rfl) _ Try.underlying44 (by kernel_rfl) 44 _ _ (HQ.out) (HP8.out) ?_)
      | ((with_reducible show wpList _ _ _ (⟨none, .store 44 (.tmp 2) (.tmp 26), _, _, _, _⟩ :: _) _ _); refine wpList_store_q rfl 44 _ _ rfl (w.heap.size) (by exact rfl) _ _ (by exact rfl) (HP8.out) (by kernel_rfl) 44 _ _ (HR.out) (rfl) ?_; intro w4 HN HO4 HB4))
        have hlv := run_loadVar_q (P := Try.prog) w4 w.heap.size 44 _ Try.underlying44 (by kernel_rfl) _ _ _ HN.out HP8.out
        rw [hv] at hlv
        exact bodyPost_ret (results_q Try.results40 _ _ _ _ _ rfl hlv) rfl ⟨rfl, HBR.out.trans HB4.out⟩
set_option maxRecDepth 100000 in
theorem rMend_any (n : Int) (bs : List Nat) (w : World) (hb : bs.length = 8) (hn : -9223372036854775808 ≤ n) (hn' : n ≤ 9223372036854775807) :
    Calls Try.prog 32 #[qv n bs] w fun e w' => e = .returned (ofV (cutL n bs)) ∧ Below w.heap.size w w' := by
  have HM : Hid (∀ W : World, Calls Try.prog 39 #[qv n bs] W fun e w' => ∃ v, e = .returned v ∧ Own w' (W.heap.size + 1) v (cutL n bs) ∧ Below W.heap.size W w') := Lib.hid (fun W => rAll_any n bs W hb hn hn')
  have HF : Hid (∀ (W : World) (B : Nat) (v : Value), Own W B v (cutL n bs) → Calls Try.prog 40 #[v] W fun e w' => e = .returned (ofV (cutL n bs)) ∧ Below W.heap.size W w') := Lib.hid (fun W B v hv => by
    obtain ⟨A, c, rfl, hc, _, _, hr, _⟩ := hv.form
    exact rOf_any A _ c _ W rfl hc hr)
  obtain ⟨b0, b1, b2, b3, b4, b5, b6, b7, rfl⟩ := eight hb
  have HP8 := Lib.hid (pad_length (cutL n [b0, b1, b2, b3, b4, b5, b6, b7]))
  rw [qv_eq]
  go_enter Try.func32, Try.ntmps32
  go_wp2_with (first
      | ((with_reducible show wpList _ _ _ (⟨some 3, .load 44 (.tmp 1), _, _, _, _⟩ :: _) _ _); refine wpList_load_q rfl 44 _ rfl (w.heap.size) (by exact rfl) _ Try.underlying44 (by kernel_rfl) 44 _ _ (QRow.below (two_at0 _ _ _) (Below.refl (w.heap.size + 1) _) (by omega)) (rfl) ?_)
      | (go_at_call 39; refine (HM.out _).mono ?_; rintro e w1 ⟨v, rfl, hv, hB⟩
         have HR1 : Hid (QRow w1 (w.heap.size + 1) 44 0 [0, 0, 0, 0, 0, 0, 0, 0]) := Lib.hid (QRow.below (two_at _ _ _) hB (by simp))
         have HB1 : Hid (Below w.heap.size w w1) := Lib.hid ((two_below _ _ _).trans (hB.mono (by simp; omega)))
         have HV := Lib.hid hv
         clear hB hv)
      | (go_at_call 40; refine (HF.out _ _ _ HV.out).mono ?_; rintro e w2 ⟨rfl, hB⟩
         have HR2 : Hid (QRow w2 (w.heap.size + 1) 44 0 [0, 0, 0, 0, 0, 0, 0, 0]) := Lib.hid (QRow.below HR1.out hB HR1.out.lt)
         have HB2 : Hid (Below w.heap.size w w2) := Lib.hid (HB1.out.trans (hB.mono HB1.out.size))
         clear hB HB1 HR1 HV)
      | ((with_reducible show wpList _ _ _ (⟨none, .store 44 (.tmp 2) (.tmp 5), _, _, _, _⟩ :: _) _ _); refine wpList_store_q rfl 44 _ _ rfl (w.heap.size + 1) (by exact rfl) _ _ (by exact rfl) (HP8.out) (by kernel_rfl) 44 _ _ (HR2.out) (rfl) ?_; intro w4 HN HO4 HB4))
  have hlv := run_loadVar_q (P := Try.prog) w4 (w.heap.size + 1) 44 _ Try.underlying44 (by kernel_rfl) _ _ _ HN.out HP8.out
  exact bodyPost_ret (v := ofV _) (results_q Try.results32 _ _ _ _ _ rfl hlv) rfl ⟨rfl, HB2.out.trans (HB4.out.mono (by omega))⟩
end Go.Proofs.Ytgpgijdciaieaaa
