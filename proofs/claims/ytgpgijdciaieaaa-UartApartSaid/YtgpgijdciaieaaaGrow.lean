/-
  Rows that grow: general laws; and the document's own All: by its contract.
-/
import Derived.Test.YtgpgijdciaieaaaVRow
namespace Go.Proofs.Ytgpgijdciaieaaa
open Go.RowKit
set_option linter.unusedVariables false
theorem bvals_take_succ (bs : List Nat) (k x : Nat) (h : bs[k]? = some x) : bvals (bs.take (k + 1)) = bvals (bs.take k) ++ [.int .u8 (x : Int)] := by
  rw [List.take_add_one, h, ← bvals_append]
  rfl
theorem q_at {w : World} {g : Nat} {t : TypeId} {n : Int} {bs : List Nat} (h : QRow w g t n bs) (k x : Nat) (hx : bs[k]? = some x) : w.cell? ⟨g, 1 + k, none⟩ = some (.int .u8 (x : Int)) := by
  rw [Nat.add_comm]
  exact row_at h (k + 1) _ (by simp [bvals, hx])
set_option maxRecDepth 100000 in
theorem rAll_any (n : Int) (bs : List Nat) (w : World) (hb : bs.length = 8) (hn : -9223372036854775808 ≤ n) (hn' : n ≤ 9223372036854775807) :
    Calls Try.prog 39 #[qv n bs] w fun e w' => ∃ v, e = .returned v ∧ Own w' (w.heap.size + 1) v (cutL n bs) ∧ Below w.heap.size w w' := by
  have hlen := cutL_length n bs hb
  have hle := cutL_le n bs hb
  obtain ⟨N, hN⟩ : ∃ N, (cutL n bs).length = N := ⟨_, rfl⟩
  rw [hN] at hlen hle
  have HC : Hid (cutL n bs = bs.take N) := Lib.hid (by rw [cutL]; by_cases h : n ≤ 8; (· rw [show n.toNat = N by omega]); (· rw [List.take_of_length_le (by omega), List.take_of_length_le (by omega)]))
  obtain ⟨i0, hi0, hz0, hz1, hz2⟩ := info_parts u8info
  have H9 := Lib.hid hz0
  have H10 := Lib.hid hz1
  have H11 := Lib.hid hz2
  have H12 := Lib.hid hi0
  clear hz0 hz1 hz2 hi0 hN
  obtain ⟨b0, b1, b2, b3, b4, b5, b6, b7, hbs⟩ := eight hb
  have HQ0 : Hid (∀ W, Below (w.heap.size + 1) (w.alloc (.cells #[.int .i64 n, .int .u8 (b0 : Int), .int .u8 (b1 : Int), .int .u8 (b2 : Int), .int .u8 (b3 : Int), .int .u8 (b4 : Int), .int .u8 (b5 : Int), .int .u8 (b6 : Int), .int .u8 (b7 : Int)] 44)) W → QRow W w.heap.size 44 n bs) := Lib.hid (fun W hW => by subst hbs; exact (QRow.al w n b0 b1 b2 b3 b4 b5 b6 b7 44).below hW (by omega))
  have hq : qv n bs = q8 n b0 b1 b2 b3 b4 b5 b6 b7 := by rw [hbs]; rfl
  have HB8 := Lib.hid hb
  rw [hq]
  clear hbs hb hq
  go_enter Try.func39, Try.ntmps39
  go_wp2_with fail
  go_loopw [3, 4] (fun v iv wr => ∃ k : Nat, k ≤ N ∧ iv = .int .i64 k ∧ wr.ownsRow (w.heap.size + 1) 5 1 v k (bvals (bs.take k)) ∧ Below (w.heap.size + 1) (w.alloc (.cells #[.int .i64 n, .int .u8 (b0 : Int), .int .u8 (b1 : Int), .int .u8 (b2 : Int), .int .u8 (b3 : Int), .int .u8 (b4 : Int), .int .u8 (b5 : Int), .int .u8 (b6 : Int), .int .u8 (b7 : Int)] 44)) wr) (fun _ iv _ => N - (intOf iv).toNat)
  case atStart => exact ⟨0, by omega, rfl, World.ownsRow_nil _ _ _ _, Below.refl _ _⟩
  case round =>
    obtain ⟨k, hk, rfl, hown, hbr⟩ := hrel
    have HBR := Lib.hid hbr
    have hz : w.heap.size + 1 ≤ wr.heap.size := Nat.le_trans (by simp) hbr.size
    have hQ := HQ0.out _ hbr
    have hcn : wr.cell? ⟨w.heap.size, 0, none⟩ = some (.int .i64 n) := row_at hQ 0 _ rfl
    obtain ⟨A, c, rfl⟩ := own_form hown
    by_cases hlt : k < N
    · obtain ⟨x, hx⟩ : ∃ x, bs[k]? = some x := ⟨_, List.getElem?_eq_getElem (by have := HB8.out; omega)⟩
      have hcx := q_at hQ k x hx
      have HX := Lib.hid hx
      have hI := fun g w => run_index_arr g k w (by omega)
      have d1 : (k : Int) < 8 := by omega
      have d2 : (k : Int) < n := by omega
      have HO := Lib.hid hown
      clear hown hbr hQ hx
      go_wp2_with (at_builtin; go_must (refine wpList_append_blk _ rfl (.tmp 15) (.tmp 20) 32 rfl (w.heap.size + 1) 5 i0 (.int .u8 0) 1 1 Try.underlying32 H12.out H9.out H10.out H11.out rfl (by decide) (.slice A k c) k (bvals (bs.take k)) rfl (own_ne HO.out (gb_alloc _ none _) (by simp)) ⟨_, 0, none⟩ 1 1 [.int .u8 (x : Int)] rfl rfl (new_one _ _ _ _ rfl) (by simp [Value.oneCell']) (by simp only [maxLen]; omega) (by omega) (by first | (simp; done) | (simp; omega)) ?_; intro v3 w3 hown3 hg3 hb3; obtain ⟨g3, cap3, rfl⟩ := own_succ hown3; have O3 := Lib.hid hown3; have G3 := Lib.hid hg3; clear hown3 hg3 hb3))
      go_roundw
      case rel => exact ⟨k + 1, by omega, by go_num, by rw [bvals_take_succ bs k x HX.out]; exact O3.out, below_gb (HBR.out.alloc (by omega) _) G3.out (by simp; omega) (fun b hb => (HO.out.lt b hb).1)⟩
      case measure =>
        simp [intOf]
        omega
    · obtain rfl : k = N := by omega
      have HO := Lib.hid hown
      clear hown hbr hQ
      have hfin : Own wr (w.heap.size + 1) (.slice A k c) (bs.take k) := by
        have h1 := HO.out
        unfold Own
        rw [List.length_take, Nat.min_eq_left (by have := HB8.out; omega)]
        exact h1
      have hfb : Below w.heap.size w wr := ((Below.refl _ _).alloc (Nat.le_refl _) _).trans (HBR.out.mono (by omega))
      by_cases d : k < 8
      · have d1 : (k : Int) < 8 := by omega
        have d2 : ¬ (k : Int) < n := by omega
        go_wp2_with fail
        go_ret
        exact ⟨_, rfl, by rw [HC.out]; exact hfin, hfb⟩
      · have d1 : ¬ (k : Int) < 8 := by omega
        go_wp2_with fail
        go_ret
        exact ⟨_, rfl, by rw [HC.out]; exact hfin, hfb⟩
end Go.Proofs.Ytgpgijdciaieaaa
