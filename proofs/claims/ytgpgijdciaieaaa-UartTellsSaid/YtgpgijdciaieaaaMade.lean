/-
  made, Of: by their contracts: a queue of the first eight bytes of a slice.
-/
import Derived.Test.YtgpgijdciaieaaaQ
namespace Go.Proofs.Ytgpgijdciaieaaa
open Go.RowKit
set_option linter.unusedVariables false
set_option maxRecDepth 100000 in
theorem made_any (A : Option Addr) (n c : Nat) (l : List Nat) (w : World) (hl : l.length = n) (hc : n ≤ c) (hA : RdB w w.heap.size A l) :
    Calls Try.prog 33 #[.slice A n c] w fun e w' => e = .returned (ofV l) ∧ Below w.heap.size w w' := by
  obtain ⟨x0, x1, x2, x3, x4, x5, x6, x7, hx⟩ := eight (pad_length l)
  have HS := Lib.hid (splice_pad l)
  have HX := Lib.hid hx
  have HA := Lib.hid hA
  have HL := Lib.hid hl
  have HC : Hid ((bvals (l.take 8)).length = Nat.min n 8) := Lib.hid (by simp only [bvals, List.length_map, List.length_take, hl]; exact Nat.min_comm 8 n)
  have HP : Hid (0 < (bvals (l.take 8)).length → ∃ ad, A = some ad ∧ ∀ (W : World), Below w.heap.size w W → ∀ j v, (bvals (l.take 8))[j]? = some v → W.cell? (ad.add j) = some v) := Lib.hid (by
    intro h
    cases A with
    | none => rw [hA.none_ rfl] at h; simp [bvals] at h
    | some ad =>
      refine ⟨ad, rfl, fun W hW j v hj => ?_⟩
      obtain ⟨x, hj, rfl⟩ := bvals_at hj
      clear h
      have hj' : l[j]? = some x := by
        rename_i hj2
        rw [List.getElem?_take] at hj2
        split at hj2
        · exact hj2
        · cases hj2
      exact (hA.below hW (Nat.le_refl _)).cells ad rfl j x hj')
  clear hl hA hx
  go_enter Try.func33, Try.ntmps33
  go_wp2_with (first
    | ((with_reducible refine wpList_copy_splice (o := ⟨some 7, _, _, _, _, _⟩) rfl (.tmp 5) (.tmp 6) 32 32 rfl 5 Try.underlying32 (by kernel_rfl) _ _ _ _ _ _ rfl rfl (w.heap.size + 1) 1 (.int .i64 0 :: bvals (List.replicate 8 0)) 24 (two_at _ _ _) (bvals (l.take 8)) HC.out (fun h0 => ⟨by go_simp, by obtain ⟨ad, h1, h2⟩ := HP.out h0; exact ⟨ad, h1, h2 _ (two_below _ _ _)⟩⟩) (by simp [bvals]; omega) (bvals_one _) (w.heap.size + 1) _ (Below.refl _ _) (Nat.le_refl _) ?_); intro w2 HG hB2
       obtain ⟨HR, HB3⟩ : QRow w2 w.heap.size 24 0 [0, 0, 0, 0, 0, 0, 0, 0] ∧ Below w.heap.size w w2 := ⟨(hB2.block _ (by omega)).trans (two_at0 _ _ _), (two_below _ _ _).trans (hB2.mono (by omega))⟩
       have HG2 : Hid (QRow w2 (w.heap.size + 1) 24 0 [x0, x1, x2, x3, x4, x5, x6, x7]) := Lib.hid (by
         have h := HG.out
         rw [HS.out, HX.out] at h
         exact h)
       clear HG hB2
       replace HR := Lib.hid HR
       replace HB3 := Lib.hid HB3)
    | ((with_reducible show wpList _ _ _ (⟨none, .store 3 (.tmp 8) (.tmp 7), _, _, _, _⟩ :: _) _ _); (refine wpList_store_row (o := ⟨none, .store 3 (.tmp 8) (.tmp 7), _, _, _, _⟩) rfl 3 _ _ rfl (w.heap.size + 1) 0 (by exact rfl) [.int .i64 (bvals (l.take 8)).length] (by exact rfl) (by kernel_rfl) (.int .i64 0 :: bvals [x0, x1, x2, x3, x4, x5, x6, x7]) (.int .i64 (bvals (l.take 8)).length :: bvals [x0, x1, x2, x3, x4, x5, x6, x7]) 24 HG2.out (by simp [bvals]) (one_one _ rfl) rfl ?_)
       obtain ⟨w3, hw3⟩ : ∃ W, W = World.setRow w2 (w.heap.size + 1) (Value.int .i64 (bvals (l.take 8)).length :: bvals [x0, x1, x2, x3, x4, x5, x6, x7]).toArray := ⟨_, rfl⟩
       rw [← hw3]
       have HG3 : Hid (QRow w3 (w.heap.size + 1) 24 (bvals (l.take 8)).length [x0, x1, x2, x3, x4, x5, x6, x7]) := Lib.hid (by rw [hw3]; exact HG2.out.set _ _)
       have HR3 : Hid (QRow w3 w.heap.size 24 0 [0, 0, 0, 0, 0, 0, 0, 0]) := Lib.hid (by rw [hw3]; exact (setRow_other w2 _ _ _ (by omega)).trans HR.out)
       have HB4 : Hid (Below w.heap.size w w3) := Lib.hid (by rw [hw3]; exact setRow_below HB3.out (by omega) _)
       clear HG2 HR HB3 hw3)
    | ((with_reducible show wpList _ _ _ (⟨some 9, .load 24 (.tmp 3), _, _, _, _⟩ :: _) _ _); (refine wpList_load_at (o := ⟨some 9, .load 24 (.tmp 3), _, _, _, _⟩) rfl 24 _ rfl (w.heap.size + 1) 0 (by exact rfl) _ _ (row_cells HG3.out) Try.underlying24 rfl (by kernel_rfl) ?_))
    | ((with_reducible show wpList _ _ _ (⟨none, .store 24 (.tmp 2) (.tmp 9), _, _, _, _⟩ :: _) _ _); (refine wpList_store_row (o := ⟨none, .store 24 (.tmp 2) (.tmp 9), _, _, _, _⟩) rfl 24 _ _ rfl w.heap.size 0 (by exact rfl) (.int .i64 (bvals (l.take 8)).length :: bvals [x0, x1, x2, x3, x4, x5, x6, x7]) (by exact rfl) (by kernel_rfl) (.int .i64 0 :: bvals [0, 0, 0, 0, 0, 0, 0, 0]) (.int .i64 (bvals (l.take 8)).length :: bvals [x0, x1, x2, x3, x4, x5, x6, x7]) 24 HR3.out (by simp [bvals]) (by simp [bvals, Value.oneCell']) rfl ?_)
       obtain ⟨w4, hw4⟩ : ∃ W, W = World.setRow w3 w.heap.size (Value.int .i64 (bvals (l.take 8)).length :: bvals [x0, x1, x2, x3, x4, x5, x6, x7]).toArray := ⟨_, rfl⟩
       rw [← hw4]
       have HN : QRow w4 w.heap.size 24 (bvals (l.take 8)).length [x0, x1, x2, x3, x4, x5, x6, x7] := by rw [hw4]; exact HR3.out.set _ _
       have HB5 : Hid (Below w.heap.size w w4) := Lib.hid (by rw [hw4]; exact setRow_below HB4.out (Nat.le_refl _) _)
       clear HG3 HR3 HB4 hw4
       obtain ⟨c0, c1, c2, c3, c4, c5, c6, c7, c8⟩ := nine HN))
  have hx := HX.out
  have hl : (bvals (l.take 8)).length = min l.length 8 := by simp only [bvals, List.length_map, List.length_take]; exact Nat.min_comm 8 _
  have hv : qv (bvals (l.take 8)).length [x0, x1, x2, x3, x4, x5, x6, x7] = ofV l := by rw [ofV, hx, hl]
  have hlv := run_loadVar_q (P := Try.prog) w4 w.heap.size 24 _ Try.underlying24 (by kernel_rfl) _ _ _ HN rfl
  rw [hv] at hlv
  exact bodyPost_ret (v := ofV l) (results_q Try.results33 _ _ _ _ _ rfl hlv) rfl ⟨rfl, HB5.out⟩
end Go.Proofs.Ytgpgijdciaieaaa
