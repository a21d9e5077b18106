/-
  readers, writers by their contracts: the maps of method values that they make. Made by wip/genuartok.py.
-/
import Derived.Test.YtgpgijdciaieaaaOkMeth
import Derived.IntWalk
namespace Go.Proofs.Ytgpgijdciaieaaa
open Go.RowKit
set_option linter.unusedVariables false
theorem uInt : Try.prog.underlying 3 = some (.int .i64) := by kernel_rfl
theorem mtyR : Try.prog.underlying 62 = some (.map 3 60) := by kernel_rfl
theorem mtyW : Try.prog.underlying 67 = some (.map 3 65) := by kernel_rfl
abbrev cl (f b : Nat) : Value := .func (.func f) #[.pointer (some ⟨b, 0, none⟩)] #[]
abbrev en (k : Int) (x : Value) (b : Nat) : MapEntry := { key := .int .i64 k, val := x, born := b }
abbrev rds (b : Nat) : Array MapEntry := #[en 3 (cl 34 b) 0, en 4 (cl 35 b) 1, en 5 (cl 36 b) 2]
abbrev wrs (b : Nat) : Array MapEntry := #[en 3 (cl 37 b) 0, en 5 (cl 38 b) 1]
set_option maxRecDepth 100000 in
theorem readers_any (b : Nat) (w : World) : Calls Try.prog 26 #[.pointer (some ⟨b, 0, none⟩)] w fun x w' => x = .returned (.map (some w.heap.size)) ∧ w' = w.alloc (.map (rds b) 3) := by
  have hmm := @run_makeMap Try.prog
  have i0 := run_ins mtyR uInt w #[] #[en 3 (cl 34 b) 0] 0 1 3 (cl 34 b) rfl rfl rfl
  have i1 := run_ins mtyR uInt w #[en 3 (cl 34 b) 0] #[en 3 (cl 34 b) 0, en 4 (cl 35 b) 1] 1 2 4 (cl 35 b) rfl rfl rfl
  have i2 := run_ins mtyR uInt w #[en 3 (cl 34 b) 0, en 4 (cl 35 b) 1] (rds b) 2 3 5 (cl 36 b) rfl rfl rfl
  go_enter Try.func26, Try.ntmps26
  go_wp2
  go_ret
  exact ⟨rfl, rfl⟩
set_option maxRecDepth 100000 in
theorem writers_any (b : Nat) (w : World) : Calls Try.prog 27 #[.pointer (some ⟨b, 0, none⟩)] w fun x w' => x = .returned (.map (some w.heap.size)) ∧ w' = w.alloc (.map (wrs b) 2) := by
  have hmm := @run_makeMap Try.prog
  have i0 := run_ins mtyW uInt w #[] #[en 3 (cl 37 b) 0] 0 1 3 (cl 37 b) rfl rfl rfl
  have i1 := run_ins mtyW uInt w #[en 3 (cl 37 b) 0] (wrs b) 1 2 5 (cl 38 b) rfl rfl rfl
  go_enter Try.func27, Try.ntmps27
  go_wp2
  go_ret
  exact ⟨rfl, rfl⟩
theorem zrd (w : World) : (zeroValue 60).run Try.prog w = .ok .nilFunc w := by kernel_rfl
theorem zwr (w : World) : (zeroValue 65).run Try.prog w = .ok .nilFunc w := by kernel_rfl
theorem find_none (reg : Int) (b : Nat) (h0 : reg ≠ 3) (h1 : reg ≠ 4) (h2 : reg ≠ 5) : Instr.findNow (.int .i64) (.int .i64 reg) (rds b).toList 0 = some none := by
  have f0 : (reg == (3 : Int)) = false := by simpa using h0
  have f1 : (reg == (4 : Int)) = false := by simpa using h1
  have f2 : (reg == (5 : Int)) = false := by simpa using h2
  simp only [Instr.findNow, Instr.sameNow, f0, f1, f2, if_true]
theorem find_noneW (reg : Int) (b : Nat) (h0 : reg ≠ 3) (h2 : reg ≠ 5) : Instr.findNow (.int .i64) (.int .i64 reg) (wrs b).toList 0 = some none := by
  have f0 : (reg == (3 : Int)) = false := by simpa using h0
  have f2 : (reg == (5 : Int)) = false := by simpa using h2
  simp only [Instr.findNow, Instr.sameNow, f0, f2, if_true]
end Go.Proofs.Ytgpgijdciaieaaa
