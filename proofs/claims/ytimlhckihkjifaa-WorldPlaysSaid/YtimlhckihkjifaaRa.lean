/-
  The document's Ahead, Check by their contracts.
-/
import Derived.Test.YtimlhckihkjifaaW
namespace Go.Proofs.Ytimlhckihkjifaa
open Go.RowKit
set_option linter.unusedVariables false
set_option linter.unusedSimpArgs false
theorem run_load_ad {P : Program} {a : Act} (w : World) (ty : TypeId) (x : Operand) (ad : Addr) (hx : a.eval x = .pointer (some ad)) (cs : List Value) (d : TypeDesc) (hc : CellsA w ad cs)
    (hu : P.underlying ty = some d) (hd : (match d with | .struct _ | .array _ _ => true | _ => false) = true) (hi : (P.info? ty).map (·.size) = some cs.length)
    (dst : Option Tmp) (type : TypeId) (pos : String) (after : Array Edge) (guard : Option (Nat × Bool)) : (execOp a.eval ⟨dst, .load ty x, type, pos, after, guard⟩).run P w = .ok (.value (.agg cs.toArray)) w := by
  unfold execOp
  simp only [hx, Instr.loadAt, Instr.sureAddr, Sem.run_bind, Sem.run_pure, Result.andThen_ok, run_loadVar_addr w ad ty cs d hc hu hd hi]
theorem results_tt {fn : Func} {t u : Tmp} (h : fn.results = #[.tmp t, .tmp u]) (tmps : Array Value) (P : Program) (w : World) (x y : Value) (hx : tmps.getD t undef = x) (hy : tmps.getD u undef = y) : (results fn tmps).run P w = .ok (.tuple #[x, y]) w := by
  subst hx
  subst hy
  simp [results, h]
set_option maxHeartbeats 1000000 in
set_option maxRecDepth 100000 in
theorem rAhead_any (x y : In) (w : World) (hx : x.ok) (hy : y.ok) : Calls Try.prog 21 #[iv x, iv y] w fun e w' => e = .returned (.bool (aheadI x y)) ∧ Below w.heap.size w w' := by
  unfold iv
  go_enter Try.func21, Try.ntmps21
  go_upto_region 1 with (fail)
  refine name_two (Q := fun X => Code.wp _ _ _ _ X) ?_
  intro W0 hq1 hq2 hB0
  have R1 : IRow W0 w.heap.size x := hq1
  have R2 : IRow W0 (w.heap.size + 1) y := hq2
  have B0 := Lib.hid hB0
  have c1 := R1.c0
  have c2 := R1.c1
  have c3 := R2.c0
  have c4 := R2.c1
  clear hq1 hq2 hB0 R1 R2
  by_cases h1 : x.a < y.a
  · have HE : Hid (aheadI x y = true) := Lib.hid (by unfold aheadI; rw [decide_eq_true h1]; rfl)
    go_wp2
    go_ret
    exact ⟨by rw [HE.out]; rfl, B0.out⟩
  · by_cases h2 : x.a = y.a
    · have e2 : (x.a == y.a) = true := by simpa using h2
      by_cases h3 : x.k < y.k
      · have HE : Hid (aheadI x y = true) := Lib.hid (by unfold aheadI; rw [decide_eq_false h1, decide_eq_true h2, decide_eq_true h3]; rfl)
        clear h2
        go_wp2
        go_ret
        exact ⟨by rw [HE.out]; rfl, B0.out⟩
      · have HE : Hid (aheadI x y = false) := Lib.hid (by unfold aheadI; rw [decide_eq_false h1, decide_eq_true h2, decide_eq_false h3]; rfl)
        clear h2
        go_wp2
        go_ret
        exact ⟨by rw [HE.out]; rfl, B0.out⟩
    · have e2 : (x.a == y.a) = false := by simpa using h2
      have HE : Hid (aheadI x y = false) := Lib.hid (by unfold aheadI; rw [decide_eq_false h1, decide_eq_false h2]; rfl)
      clear h2
      go_wp2
      go_ret
      exact ⟨by rw [HE.out]; rfl, B0.out⟩
end Go.Proofs.Ytimlhckihkjifaa
