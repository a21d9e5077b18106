/-
  strings.Clone, numberUpTo, Many, S, I by their contracts over the plain state. Condition: as in Read. (Clone after the guide's own contract of it.)
-/
import Derived.Test.YtmmdkoomceikiaaDoorRead3
import Derived.Lib.Strings
import Derived.Lib.Walk
import Derived.Lib.BufferWrite
import Derived.Lib.UnsafeStr
import Derived.Laws.MakeOwn
namespace Go.Proofs.YtmmdkoomceikiaaDoor
open Go.RowKit

set_option maxHeartbeats 4000000 in
set_option maxRecDepth 100000 in
theorem cloneLite (s : ByteArray) (w : World) (hlim : s.size ≤ 281474976710656) :
    Calls Tryd.prog 61 #[.string s] w fun e w' => e = .returned (.string s) ∧ Below w.heap.size w w' := by
  by_cases h0 : s.size = 0
  · have hs : s = ⟨#[]⟩ := by
      apply ByteArray.ext
      exact Array.eq_empty_of_size_eq_zero h0
    subst hs
    go_enter Tryd.func61, Tryd.ntmps61
    go_wp2
    go_ret
    exact ⟨rfl, Below.refl _ _⟩
  · obtain ⟨i0, hi, hz0, hz1, hz2⟩ := info_parts u8info
    have hinfo : (Tryd.prog.info? 5).map (·.size) = some 1 := by rw [hi]; simp [hz1]
    have hco : Tryd.prog.cellsOf 5 = 1 := by simp [Program.cellsOf, hi, hz1]
    obtain ⟨M, hM⟩ : ∃ M, M = madeCells (Value.int .u8 0).cells (((s.size : Nat) : Int).toNat * i0.size) := ⟨_, rfl⟩
    have hMs : M.size = s.size := by rw [hM, size_madeCells, hz1]; simp
    have hmk : ∀ W : World, (Instr.makeSlice 43 (.int .i64 (s.size : Int)) (.int .i64 (s.size : Int))).run Tryd.prog W = .ok (.slice (some ⟨W.heap.size, 0, none⟩) s.size s.size) (W.alloc (.cells M 5)) := fun W => by
      have h := run_make (P := Tryd.prog) W 43 5 i0 (.int .u8 0) Tryd.underlying43 hi hz0 .i64 .i64 (s.size : Int) (s.size : Int) (by omega) (by omega) (by rw [hz2]; omega) (by omega)
      rw [← hM] at h
      simpa using h
    clear hM
    have hcp := Lib.run_copy_row_string (P := Tryd.prog) (w.alloc (.cells M 5)) 43 9 3 5 w.heap.size 0 s.size s.size s M 5 Tryd.underlying43 hinfo (heap_alloc_new w _) (Nat.le_refl _) (by omega)
    obtain ⟨Y, hY⟩ : ∃ Y, Y = (M.toList.take 0 ++ Lib.byteCells s.data.toList ++ M.toList.drop (0 + s.size)).toArray := ⟨_, rfl⟩
    rw [← hY] at hcp
    have hYl : Y.toList = Lib.byteCells s.data.toList := by
      rw [hY, List.toList_toArray, List.take_zero, List.nil_append, List.drop_of_length_le (by rw [Array.length_toList]; omega), List.append_nil]
    have hYs : Y.size = s.size := by rw [← Array.length_toList, hYl, Lib.byteCells_length, ← Lib.size_eq]
    have hgY : ((w.alloc (.cells M 5)).setRow w.heap.size Y).heap[w.heap.size]? = some (.cells Y 5 (0, 0)) := setRow_heap _ _ M _ 5 (0, 0) (heap_alloc_new w _)
    have hne : s.data.toList ≠ [] := fun e => h0 (by rw [Lib.size_eq, e]; rfl)
    have hUS := Lib.run_unsafeString_row (P := Tryd.prog) ((w.alloc (.cells M 5)).setRow w.heap.size Y) 119 3 9 5 Tryd.underlying119 hco w.heap.size Y.size (by unfold World.shape?; rw [hgY]) s.data.toList hne (by rw [← Lib.size_eq]; omega) (by rw [← Lib.size_eq]; omega)
      (fun j x hx => Lib.cells_of_row hgY Y.size j _ (by rw [List.take_of_length_le (by rw [Array.length_toList]; exact Nat.le_refl _), hYl]; simp [Lib.byteCells, hx]))
    rw [← Lib.size_eq] at hUS
    clear hY
    go_enter Tryd.func61, Tryd.ntmps61
    go_wp2
    go_ret
    have hb1 : Below w.heap.size w (w.alloc (.cells M 5)) := (Below.refl _ w).alloc (Nat.le_refl _) _
    have hb2 : Below w.heap.size (w.alloc (.cells M 5)) ((w.alloc (.cells M 5)).setRow w.heap.size Y) := ⟨rfl, rfl, rfl, by simp, fun k hk => setRow_other _ _ _ _ (by omega)⟩
    exact ⟨rfl, Lib.below_freeze (hb1.trans hb2) (p := ⟨w.heap.size, 0, none⟩) (Nat.le_refl _) _⟩
theorem clone_any (s : ByteArray) (w : World) (hlim : s.size ≤ 281474976710656) :
    Calls Tryd.prog 53 #[.string s] w fun e w' => e = .returned (.string s) ∧ Below w.heap.size w w' := by
  have hc := Lib.hid (cloneLite s w hlim)
  go_enter Tryd.func53, Tryd.ntmps53
  go_wp2_with fail
  refine hc.out.mono ?_
  rintro e w1 ⟨rfl, hb⟩
  go_wp2
  go_ret
  exact ⟨rfl, hb⟩

/-! ### A number up to 'most' -/
def numT (R : Nat × Nat × Nat) : Value := .tuple #[.int .u64 (R.1 : Int), .int .i64 (R.2.1 : Int), .int .i64 (R.2.2 : Int)]
set_option maxHeartbeats 1000000 in
theorem numberUpTo_any (b p : Nat) (s : ByteArray) (most : Int) (w : World) (hL : Laid w) (h0 : w.cell? ⟨b, 0, none⟩ = some (.string s)) (h : w.cell? ⟨b, 1, none⟩ = some (.int .i64 (p : Int))) (hp : p ≤ s.size) (hs : s.size ≤ 140737488355328) (hm : -9223372036854775808 ≤ most) (hm2 : most ≤ 9223372036854775807) :
    Calls Tryd.prog 52 #[.pointer (some ⟨b, 0, none⟩), .int .i64 most] w fun e w' => e = .returned (numT (numU s p most)) ∧ ∃ n, w' = w.drewN n := by
  have h1 := number_any b p s w hL h0 h hp hs
  unfold numU
  by_cases hc : (numR s p).2.2 = 0
  · rw [hc] at h1
    rw [if_pos hc]
    by_cases hn : most < 0
    · have ht : most < 0 ∨ most < ((numR s p).1 : Int) := .inl hn
      rw [if_pos ht]
      clear ht
      generalize numR s p = R at *
      have H1 := Lib.hid h1
      clear h1 hc hL
      go_enter Tryd.func52, Tryd.ntmps52
      go_wp2_with (go_at_call 49; refine H1.out.mono ?_; rintro e w' ⟨rfl, n, rfl⟩)
      go_ret3
      exact ⟨rfl, _, rfl⟩
    · by_cases hn2 : most < ((numR s p).1 : Int)
      · have ht : most < 0 ∨ most < ((numR s p).1 : Int) := .inr hn2
        rw [if_pos ht]
        clear ht
        generalize numR s p = R at *
        have H1 := Lib.hid h1
        clear h1 hc hL
        go_enter Tryd.func52, Tryd.ntmps52
        go_wp2_with (go_at_call 49; refine H1.out.mono ?_; rintro e w' ⟨rfl, n, rfl⟩)
        go_ret3
        exact ⟨rfl, _, rfl⟩
      · have ht : ¬ (most < 0 ∨ most < ((numR s p).1 : Int)) := by omega
        rw [if_neg ht]
        clear ht
        rw [show numT (numR s p) = .tuple #[.int .u64 ((numR s p).1 : Int), .int .i64 ((numR s p).2.1 : Int), .int .i64 0] from by rw [numT, hc]; rfl]
        generalize numR s p = R at *
        have H1 := Lib.hid h1
        clear h1 hc hL
        go_enter Tryd.func52, Tryd.ntmps52
        go_wp2_with (go_at_call 49; refine H1.out.mono ?_; rintro e w' ⟨rfl, n, rfl⟩)
        go_ret3
        exact ⟨rfl, _, rfl⟩
  · rw [if_neg hc]
    have hc2 : (((numR s p).2.2 : Int) == 0) = false := by rw [beq_eq_false_iff_ne]; omega
    unfold numT
    generalize numR s p = R at *
    have H1 := Lib.hid h1
    clear h1 hc hL
    go_enter Tryd.func52, Tryd.ntmps52
    go_wp2_with (go_at_call 49; refine H1.out.mono ?_; rintro e w' ⟨rfl, n, rfl⟩)
    go_ret3
    exact ⟨rfl, _, rfl⟩
end Go.Proofs.YtmmdkoomceikiaaDoor
