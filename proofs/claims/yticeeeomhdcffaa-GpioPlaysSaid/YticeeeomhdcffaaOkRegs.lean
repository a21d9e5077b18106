/-
  readers, writers by their contracts: the maps of closures that they make.
-/
import Derived.Test.YticeeeomhdcffaaBitG
import Derived.IntWalk
namespace Go.Proofs.Yticeeeomhdcffaa
open Go.RowKit
set_option linter.unusedVariables false
theorem uInt : Try.prog.underlying 3 = some (.int .i64) := by kernel_rfl
theorem mtyR : Try.prog.underlying 55 = some (.map 3 53) := by kernel_rfl
theorem mtyW : Try.prog.underlying 48 = some (.map 3 46) := by kernel_rfl
abbrev cl (f b : Nat) : Value := .func (.func f) #[] #[.pointer (some ⟨b, 0, none⟩)]
abbrev en (k : Int) (x : Value) (b : Nat) : MapEntry := { key := .int .i64 k, val := x, born := b }
abbrev rds (b : Nat) : Array MapEntry := #[en 0 (cl 24 b) 0, en 1 (cl 25 b) 1, en 2 (cl 26 b) 2]
abbrev wrs (b : Nat) : Array MapEntry := #[en 0 (cl 22 b) 0, en 2 (cl 23 b) 1]
set_option maxRecDepth 100000 in
theorem readers_any (b : Nat) (w : World) : Calls Try.prog 21 #[.pointer (some ⟨b, 0, none⟩)] w fun x w' => x = .returned (.map (some (w.heap.size + 1))) ∧
    w' = (w.alloc (.cells #[.pointer (some ⟨b, 0, none⟩)] 50)).alloc (.map (rds w.heap.size) 3) := by
  have hmm := @run_makeMap Try.prog
  obtain ⟨wb, hwb⟩ : ∃ wb, w.alloc (.cells #[.pointer (some ⟨b, 0, none⟩)] 50) = wb := ⟨_, rfl⟩
  have hsz : wb.heap.size = w.heap.size + 1 := by rw [← hwb]; simp
  have i0 := run_ins mtyR uInt wb #[] #[en 0 (cl 24 w.heap.size) 0] 0 1 0 (cl 24 w.heap.size) rfl rfl rfl
  have i1 := run_ins mtyR uInt wb #[en 0 (cl 24 w.heap.size) 0] #[en 0 (cl 24 w.heap.size) 0, en 1 (cl 25 w.heap.size) 1] 1 2 1 (cl 25 w.heap.size) rfl rfl rfl
  have i2 := run_ins mtyR uInt wb #[en 0 (cl 24 w.heap.size) 0, en 1 (cl 25 w.heap.size) 1] (rds w.heap.size) 2 3 2 (cl 26 w.heap.size) rfl rfl rfl
  rw [← hwb] at i0 i1 i2
  simp only [World.size_alloc] at i0 i1 i2
  clear hsz hwb
  go_enter Try.func21, Try.ntmps21
  go_wp2
  go_ret
  exact ⟨rfl, rfl⟩
set_option maxRecDepth 100000 in
theorem writers_any (b : Nat) (w : World) : Calls Try.prog 17 #[.pointer (some ⟨b, 0, none⟩)] w fun x w' => x = .returned (.map (some (w.heap.size + 1))) ∧
    w' = (w.alloc (.cells #[.pointer (some ⟨b, 0, none⟩)] 50)).alloc (.map (wrs w.heap.size) 2) := by
  have hmm := @run_makeMap Try.prog
  obtain ⟨wb, hwb⟩ : ∃ wb, w.alloc (.cells #[.pointer (some ⟨b, 0, none⟩)] 50) = wb := ⟨_, rfl⟩
  have hsz : wb.heap.size = w.heap.size + 1 := by rw [← hwb]; simp
  have i0 := run_ins mtyW uInt wb #[] #[en 0 (cl 22 w.heap.size) 0] 0 1 0 (cl 22 w.heap.size) rfl rfl rfl
  have i1 := run_ins mtyW uInt wb #[en 0 (cl 22 w.heap.size) 0] (wrs w.heap.size) 1 2 2 (cl 23 w.heap.size) rfl rfl rfl
  rw [← hwb] at i0 i1
  simp only [World.size_alloc] at i0 i1
  clear hsz hwb
  go_enter Try.func17, Try.ntmps17
  go_wp2
  go_ret
  exact ⟨rfl, rfl⟩
end Go.Proofs.Yticeeeomhdcffaa
