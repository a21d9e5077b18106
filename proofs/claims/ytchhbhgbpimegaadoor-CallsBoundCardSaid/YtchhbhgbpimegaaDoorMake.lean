/-
  make of n rows, and of n numbers.
-/
import Derived.Test.YtchhbhgbpimegaaDoorGraph
import Derived.Laws.OwnMore
namespace Go.Proofs.YtchhbhgbpimegaaDoor
open Go.RowKit
theorem rowinfo : (Tryd.prog.info? 36).map (fun i => (i.zero, i.size, i.bytes)) = some (some (.slice none 0 0), 1, 24) := by kernel_rfl
theorem made_one (z : Value) (n : Nat) : madeCells #[z] n = (List.replicate n z).toArray := by
  apply Array.toList_inj.1
  rw [toList_madeCells_one]
theorem mk_rows (n : Nat) (h : n ≤ 64) (W : World) : (Instr.makeSlice 33 (.int .i64 (n : Int)) (.int .i64 (n : Int))).run Tryd.prog W = .ok (.slice (some ⟨W.heap.size, 0, none⟩) n n) (W.alloc (.cells (Array.replicate n (.slice none 0 0)) 36)) := by
  obtain ⟨i0, hi0, hz0, hz1, hz2⟩ := info_parts rowinfo
  have h2 := run_make (P := Tryd.prog) W 33 36 i0 (.slice none 0 0) Tryd.underlying33 hi0 hz0 .i64 .i64 (n : Int) (n : Int) (by omega) (by omega) (by rw [hz2]; omega) (by omega)
  rw [hz1] at h2
  have h3 := made_one (.slice none 0 0) n
  simpa [Value.cells, h3] using h2
theorem mk_ints (n : Nat) (h : n ≤ 64) (W : World) : (Instr.makeSlice 36 (.int .i64 (n : Int)) (.int .i64 (n : Int))).run Tryd.prog W = .ok (.slice (some ⟨W.heap.size, 0, none⟩) n n) (W.alloc (.cells (Array.replicate n (.int .i64 0)) 3)) := by
  obtain ⟨i0, hi0, hz0, hz1, hz2⟩ := info_parts intinfo
  have h2 := run_make (P := Tryd.prog) W 36 3 i0 (.int .i64 0) Tryd.underlying36 hi0 hz0 .i64 .i64 (n : Int) (n : Int) (by omega) (by omega) (by rw [hz2]; omega) (by omega)
  rw [hz1] at h2
  have h3 := made_one (.int .i64 0) n
  simpa [Value.cells, h3] using h2
end Go.Proofs.YtchhbhgbpimegaaDoor
