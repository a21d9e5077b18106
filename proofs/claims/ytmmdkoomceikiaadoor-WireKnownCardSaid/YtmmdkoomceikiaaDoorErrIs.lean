/-
  errors.Is by its contract, at an error that is a *api.Fault and a target that is its own number: it answers true and changes nothing. No condition. (After the guide's worked example of errors.Is.)
-/
import Derived.Test.YtmmdkoomceikiaaDoorErrFacts
namespace Go.Proofs.YtmmdkoomceikiaaDoor
open Go.RowKit Go.Extern.Stop Go.Stop Go.Extern

theorem typeOfN (v : Value) (w : World) : (ReflectliteType.typeOf #[.iface 26 v]).run Tryd.prog w = .ok (.iface 105 (.agg #[.pointer (some ⟨2, 26, none⟩)])) w := by kernel_rfl
theorem comparableN (w : World) : ((ReflectliteType.method fun t => do
    Rtype.noPackHeld "Comparable" t
    (fun a => Value.bool a.comparable) <$> typeInfo t) #[.agg #[.pointer (some ⟨2, 26, none⟩)]]).run Tryd.prog w = .ok (.bool true) w := by kernel_rfl
theorem compN : (Tryd.prog.info? 26).map (·.comparable) = some true := by kernel_rfl
theorem noIsF (v : Value) (xT : TypeId) (w : World) : (Instr.typeAssert (.iface 72 v) xT 116 true).run Tryd.prog w = .ok (.tuple #[.nilIface, .bool false]) w := run_typeAssert_lacksB Tryd.underlying116 (by kernel_rfl) (by kernel_rfl) v xT w
theorem hasUnwrapF (v : Value) (xT : TypeId) (w : World) : (Instr.typeAssert (.iface 72 v) xT 112 true).run Tryd.prog w = .ok (.tuple #[.iface 72 v, .bool true]) w := run_typeAssert_hasB Tryd.underlying112 (by kernel_rfl) v xT w
theorem methodUnwrap (d : Nat) (v : Value) (w : World) : (Go.method (d + 100) 72 v "Unwrap").run Tryd.prog w = .ok (83, v) w := by kernel_rfl

/-- '==' between two errors that are numbers of one integer type. -/
theorem eql_nums (w : World) (a : Int) : (binOp .eql 38 (.iface 26 (.int .i64 a)) (.iface 26 (.int .i64 a))).run Tryd.prog w = .ok (.bool true) w := by
  obtain ⟨i, hi, hcmp⟩ := Option.map_eq_some_iff.1 compN
  have h : ∀ d : Nat, (Op.equalIn (d + 2) 38 (.iface 26 (.int .i64 a)) (.iface 26 (.int .i64 a))).run Tryd.prog w = .ok true w := fun d => by
    simp [Op.equalIn, run_underlying Tryd.underlying38, run_underlying Tryd.underlying26, typeInfo, hi, hcmp]
  simp only [binOp]
  simp [Op.equal, Op.maxDepth, h 9998]

theorem eql_other (w : World) (x y : Value) : (binOp .eql 38 (.iface 72 x) (.iface 26 y)).run Tryd.prog w = .ok (.bool false) w :=
  run_eql_iface_types _ _ x y Tryd.underlying38 (by decide) w

set_option maxRecDepth 100000 in
set_option maxHeartbeats 4000000 in
theorem is_hit (b : Nat) (c : Int) (w : World) (hc : w.cell? ⟨b, 0, none⟩ = some (.int .i64 c)) :
    Calls Tryd.prog 42 #[.iface 72 (.pointer (some ⟨b, 0, none⟩)), .iface 26 (.int .i64 c)] w fun e w' => e = .returned (.bool true) ∧ w = w' := by
  have h8 := @run_callFunc_extern Tryd.prog 59 _ ReflectliteType.typeOf Tryd.func59 (by kernel_rfl) (by kernel_rfl) (by kernel_rfl) (by kernel_rfl)
  have h32 := @run_callFunc_extern Tryd.prog 89 _ (ReflectliteType.method fun t => do Rtype.noPackHeld "Comparable" t; pure (.bool (← typeInfo t).comparable)) Tryd.func89 (by kernel_rfl) (by kernel_rfl) (by kernel_rfl) (by kernel_rfl)
  have tT := typeOfN
  have cT := comparableN
  have mR := methodComparable
  have nI := noIsF
  have hU := hasUnwrapF
  have mU := methodUnwrap
  have e2 := eql_nums
  have e1 := eql_other
  go_enter Tryd.func42, Tryd.ntmps42
  go_wp2
  refine wp_loop_rounds 2 ?_
  rw [rounds_succ]
  go_wp2
  rw [rounds_succ]
  go_wp2
  go_ret
  exact ⟨rfl, rfl⟩
end Go.Proofs.YtmmdkoomceikiaaDoor
