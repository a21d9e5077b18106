/-
  errors.Is by its contract, at an error that is a *api.Fault and a target that is its own number: it answers true and changes nothing. No condition. (After the guide's worked example of errors.Is.)
-/
import Derived.Test.YtmebcenjghagoaaGreatDoorErrFacts
namespace Go.Proofs.YtmebcenjghagoaaGreatDoor
open Go.RowKit Go.Extern.Stop Go.Stop Go.Extern

theorem typeOfN (v : Value) (w : World) : (ReflectliteType.typeOf #[.iface 47 v]).run Tryz.prog w = .ok (.iface 109 (.agg #[.pointer (some ⟨8, 47, none⟩)])) w := by kernel_rfl
theorem comparableN (w : World) : ((ReflectliteType.method fun t => do
    Rtype.noPackHeld "Comparable" t
    (fun a => Value.bool a.comparable) <$> typeInfo t) #[.agg #[.pointer (some ⟨8, 47, none⟩)]]).run Tryz.prog w = .ok (.bool true) w := by kernel_rfl
theorem compN : (Tryz.prog.info? 47).map (·.comparable) = some true := by kernel_rfl
theorem noIsF (v : Value) (xT : TypeId) (w : World) : (Instr.typeAssert (.iface 68 v) xT 121 true).run Tryz.prog w = .ok (.tuple #[.nilIface, .bool false]) w := run_typeAssert_lacksB Tryz.underlying121 (by kernel_rfl) (by kernel_rfl) v xT w
theorem hasUnwrapF (v : Value) (xT : TypeId) (w : World) : (Instr.typeAssert (.iface 68 v) xT 116 true).run Tryz.prog w = .ok (.tuple #[.iface 68 v, .bool true]) w := run_typeAssert_hasB Tryz.underlying116 (by kernel_rfl) v xT w
theorem methodUnwrap (d : Nat) (v : Value) (w : World) : (Go.method (d + 100) 68 v "Unwrap").run Tryz.prog w = .ok (125, v) w := by kernel_rfl

/-- '==' between two errors that are numbers of one integer type. -/
theorem eql_nums (w : World) (a : Int) : (binOp .eql 31 (.iface 47 (.int .i64 a)) (.iface 47 (.int .i64 a))).run Tryz.prog w = .ok (.bool true) w := by
  obtain ⟨i, hi, hcmp⟩ := Option.map_eq_some_iff.1 compN
  have h : ∀ d : Nat, (Op.equalIn (d + 2) 31 (.iface 47 (.int .i64 a)) (.iface 47 (.int .i64 a))).run Tryz.prog w = .ok true w := fun d => by
    simp [Op.equalIn, run_underlying Tryz.underlying31, run_underlying Tryz.underlying47, typeInfo, hi, hcmp]
  simp only [binOp]
  simp [Op.equal, Op.maxDepth, h 9998]

theorem eql_other (w : World) (x y : Value) : (binOp .eql 31 (.iface 68 x) (.iface 47 y)).run Tryz.prog w = .ok (.bool false) w :=
  run_eql_iface_types _ _ x y Tryz.underlying31 (by decide) w

set_option maxRecDepth 100000 in
set_option maxHeartbeats 4000000 in
theorem is_hit (b : Nat) (c : Int) (w : World) (hc : w.cell? ⟨b, 0, none⟩ = some (.int .i64 c)) :
    Calls Tryz.prog 36 #[.iface 68 (.pointer (some ⟨b, 0, none⟩)), .iface 47 (.int .i64 c)] w fun e w' => e = .returned (.bool true) ∧ w = w' := by
  have h8 := @run_callFunc_extern Tryz.prog 55 _ ReflectliteType.typeOf Tryz.func55 (by kernel_rfl) (by kernel_rfl) (by kernel_rfl) (by kernel_rfl)
  have h32 := @run_callFunc_extern Tryz.prog 131 _ (ReflectliteType.method fun t => do Rtype.noPackHeld "Comparable" t; pure (.bool (← typeInfo t).comparable)) Tryz.func131 (by kernel_rfl) (by kernel_rfl) (by kernel_rfl) (by kernel_rfl)
  have tT := typeOfN
  have cT := comparableN
  have mR := methodComparable
  have nI := noIsF
  have hU := hasUnwrapF
  have mU := methodUnwrap
  have e2 := eql_nums
  have e1 := eql_other
  go_enter Tryz.func36, Tryz.ntmps36
  go_wp2
  refine wp_loop_rounds 2 ?_
  rw [rounds_succ]
  go_wp2
  rw [rounds_succ]
  go_wp2
  go_ret
  exact ⟨rfl, rfl⟩
end Go.Proofs.YtmebcenjghagoaaGreatDoor
