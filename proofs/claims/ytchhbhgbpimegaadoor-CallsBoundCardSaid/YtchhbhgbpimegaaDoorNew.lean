/-
  A set of bits: newSet (for 1 to 64 numbers: one level of one word, empty); taken by its contract.
-/
import Derived.Test.YtchhbhgbpimegaaDoorSet4
namespace Go.Proofs.YtchhbhgbpimegaaDoor
open Go.RowKit
set_option linter.unusedVariables false
theorem newSet_world (w : World) (c : Nat) (zs : Array Value) :
    Below w.heap.size w ((((w.alloc (.cells #[.slice (some ⟨w.heap.size + 1 + 1 + 1, 0, none⟩) 1 c] 96)).alloc (.cells #[.int .u64 0] 100)).alloc (.cells #[.slice (some ⟨w.heap.size + 1, 0, none⟩) 1 1] 97)).alloc (.cells (#[.slice (some ⟨w.heap.size + 1, 0, none⟩) 1 1] ++ zs) 97)).drew.drew ∧
    IsSet ((((w.alloc (.cells #[.slice (some ⟨w.heap.size + 1 + 1 + 1, 0, none⟩) 1 c] 96)).alloc (.cells #[.int .u64 0] 100)).alloc (.cells #[.slice (some ⟨w.heap.size + 1, 0, none⟩) 1 1] 97)).alloc (.cells (#[.slice (some ⟨w.heap.size + 1, 0, none⟩) 1 1] ++ zs) 97)).drew.drew w.heap.size (w.heap.size + 1 + 1 + 1) (w.heap.size + 1) 0 := by
  have hB := ((((Below.refl w.heap.size w).alloc (Nat.le_refl _) (.cells #[.slice (some ⟨w.heap.size + 1 + 1 + 1, 0, none⟩) 1 c] 96)).alloc (by simp) (.cells #[.int .u64 0] 100)).alloc (by simp; omega) (.cells #[.slice (some ⟨w.heap.size + 1, 0, none⟩) 1 1] 97)).alloc (by simp; omega) (.cells (#[.slice (some ⟨w.heap.size + 1, 0, none⟩) 1 1] ++ zs) 97)
  refine ⟨⟨hB.os, hB.tape, hB.output, hB.size, hB.block⟩, by decide, ⟨by omega, by omega, by omega⟩, ⟨c, ?_⟩, ⟨zs.toList, ?_⟩, ?_⟩
  · show (World.alloc _ _).heap[_]? = _
    rw [Go.heap_alloc_old _ _ (by simp; omega), Go.heap_alloc_old _ _ (by simp; omega), Go.heap_alloc_old _ _ (by simp)]
    exact alloc_at _ _
  · show (World.alloc _ _).heap[_]? = _
    have := alloc_at (((w.alloc (.cells #[.slice (some ⟨w.heap.size + 1 + 1 + 1, 0, none⟩) 1 c] 96)).alloc (.cells #[.int .u64 0] 100)).alloc (.cells #[.slice (some ⟨w.heap.size + 1, 0, none⟩) 1 1] 97)) (.cells (#[.slice (some ⟨w.heap.size + 1, 0, none⟩) 1 1] ++ zs) 97)
    simp only [World.size_alloc] at this
    rw [this]
    simp
  · show (World.alloc _ _).heap[_]? = _
    rw [Go.heap_alloc_old _ _ (by simp), Go.heap_alloc_old _ _ (by simp)]
    have := alloc_at (w.alloc (.cells #[.slice (some ⟨w.heap.size + 1 + 1 + 1, 0, none⟩) 1 c] 96)) (.cells #[.int .u64 0] 100)
    simp only [World.size_alloc] at this
    exact this
set_option maxRecDepth 100000 in
set_option maxHeartbeats 2000000 in
theorem newSet_any (n : Nat) (w : World) (hn : 1 ≤ n) (hn2 : n ≤ 64) : Calls Tryd.prog 22 #[.int .i64 n] w fun e w' => e = .returned (.pointer (some ⟨w.heap.size, 0, none⟩)) ∧ Below w.heap.size w w' ∧ ∃ lv wb, w.heap.size < lv ∧ w.heap.size < wb ∧ IsSet w' w.heap.size lv wb 0 := by
  have h1 : IntKind.i64.wrap (IntKind.i64.wrap ((n : Int) + 64) - 1) = (n : Int) + 63 := by
    rw [IntKind.wrap_i64, IntKind.wrap_i64]; omega
  have h2 : IntKind.i64.wrap (((n : Int) + 63).tdiv 64) = 1 := by
    rw [IntKind.wrap_i64, Int.tdiv_eq_ediv_of_nonneg (by omega)]; omega
  have h3 : ((n : Int) + 64 - 1) / 64 = 1 := by omega
  have hmk : ∀ W : World, (Instr.makeSlice 97 (.int .i64 1) (.int .i64 1)).run Tryd.prog W = .ok (.slice (some ⟨W.heap.size, 0, none⟩) 1 1) (W.alloc (.cells #[.int .u64 0] 100)) := fun _ => by kernel_rfl
  go_enter Tryd.func22, Tryd.ntmps22
  go_wp2
  go_loopw [4] (fun a wr => (a = .int .i64 n ∧ wr = w.alloc (.cells #[.slice none 0 0] 96)) ∨ (a = .int .i64 1 ∧ Below w.heap.size w wr ∧ w.heap.size + 1 < wr.heap.size ∧ ∃ lv wb, w.heap.size < lv ∧ w.heap.size < wb ∧ IsSet wr w.heap.size lv wb 0)) (fun a wr => if wr.heap.size = w.heap.size + 1 then 1 else 0)
  case atStart => exact Or.inl ⟨rfl, rfl⟩
  case round =>
    rcases hrel with ⟨rfl, rfl⟩ | ⟨rfl, hB, hsz, lv, wb, hlv, hwb, hs⟩
    · go_wp2
      rw [h3]
      have c0 : (w.alloc (.cells #[.slice none 0 0] 96)).cell? ⟨w.heap.size, 0, none⟩ = some (.slice none 0 0) := by
        rw [cell_of_row _ _ 0 _ _ _ (alloc_at _ _)]; rfl
      have c1 : ((w.alloc (.cells #[.slice none 0 0] 96)).alloc (.cells #[.int .u64 0] 100)).cell? ⟨w.heap.size, 0, none⟩ = some (.slice none 0 0) := by
        rw [((Below.refl _ _).alloc (Nat.le_refl _) _).cell (p := ⟨w.heap.size, 0, none⟩) (by simp)]; exact c0
      have c2 : (((w.alloc (.cells #[.slice none 0 0] 96)).alloc (.cells #[.int .u64 0] 100)).alloc (.cells #[.slice (some ⟨w.heap.size + 1, 0, none⟩) 1 1] 97)).cell? ⟨w.heap.size, 0, none⟩ = some (.slice none 0 0) := by
        rw [((Below.refl _ _).alloc (Nat.le_refl _) _).cell (p := ⟨w.heap.size, 0, none⟩) (by simp; omega)]; exact c1
      have hbig : ¬ (281474976710656 < Builtin.nextslicecap 1 0 * Tryd.t97.bytes) := by decide
      clear h1 h2
      go_region_with (fail)
      all_goals
        go_wp2
        go_roundw
        case rel => exact Or.inr ⟨rfl, (newSet_world w _ _).1, by simp [World.drew], _, _, by omega, by omega, (newSet_world w _ _).2⟩
        case measure =>
          simp [World.drew]
          omega
    · obtain ⟨c, hr⟩ := hs.row
      have c0 := row_at hr 0 _ rfl
      have HS := Lib.hid hs
      clear hs hr
      go_wp2
      go_ret
      exact ⟨rfl, hB, lv, wb, hlv, hwb, HS.out⟩
theorem taken_any (p : Nat) (w : World) : Calls Tryd.prog 26 #[.pointer (some ⟨p, 0, none⟩)] w fun e w' => e = .returned (.func (.func 43) #[] #[.pointer (some ⟨w.heap.size, 0, none⟩)]) ∧ w' = w.alloc (.cells #[.pointer (some ⟨p, 0, none⟩)] 66) := by
  go_enter Tryd.func26, Tryd.ntmps26
  go_wp2
  go_ret
  exact ⟨rfl, rfl⟩
end Go.Proofs.YtchhbhgbpimegaaDoor
