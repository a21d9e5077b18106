/-
  A timer is the same as itself: == and !=; rows of six truths.
-/
import Derived.Test.YtgibindoblhkeaaRnext
import Derived.Laws.StructEq
namespace Go.Proofs.Ytgibindoblhkeaa
open Go.RowKit
set_option linter.unusedVariables false
section
variable (w : World)
theorem run_eq_t (ty : TypeId) (ht : Try.prog.underlying ty = Try.prog.underlying 25) (hp : Try.prog.stoodInHeld ty = false) (t : Tm) : (Op.equalIn 10000 ty (tv t) (tv t)).run Try.prog w = .ok true w := by
  have hf : Try.prog.fieldsOf ty = #[⟨"Count", 22, 0, false, "", "", 0⟩, ⟨"Comp", 22, 1, false, "", "", 2⟩, ⟨"Ctl", 22, 2, false, "", "", 4⟩] := by
    unfold Program.fieldsOf
    rw [ht]
    rfl
  have hpart : ∀ (cs : Array Value) (j : Nat) (v : Value), cs[j]? = some v → (part 22 cs j).run Try.prog w = .ok v w := fun cs j v h => by
    simp [part, isAgg, run_underlying Try.underlying22, h]
  have hint : ∀ a : Int, (Op.equalIn 9999 22 (.int .u16 a) (.int .u16 a)).run Try.prog w = .ok (a == a) w := fun a => run_equalIn_int w 9998 22 .u16 .u16 a a Try.underlying22
  unfold tv
  rw [run_equalIn_struct w 9999 ty _ _ (by rw [hf, ht]; rfl) hp, hf]
  have a0 := hpart #[.int .u16 (t.a : Int), .int .u16 (t.b : Int), .int .u16 (t.c : Int)] 0 (.int .u16 (t.a : Int)) rfl
  have a1 := hpart #[.int .u16 (t.a : Int), .int .u16 (t.b : Int), .int .u16 (t.c : Int)] 1 (.int .u16 (t.b : Int)) rfl
  have a2 := hpart #[.int .u16 (t.a : Int), .int .u16 (t.b : Int), .int .u16 (t.c : Int)] 2 (.int .u16 (t.c : Int)) rfl
  simp only [Op.eqFields, ne_eq, Sem.run_bind, Sem.run_ite, a0, a1, a2, hint, Result.andThen_ok]
  simp
theorem run_eql_t (t : Tm) : (binOp .eql 25 (tv t) (tv t)).run Try.prog w = .ok (.bool true) w := by
  have h := run_eq_t w 25 rfl (by kernel_rfl) t
  unfold tv at h ⊢
  rw [run_eql_struct, h]
  rfl
theorem run_neq_t (t : Tm) : (binOp .neq 25 (tv t) (tv t)).run Try.prog w = .ok (.bool false) w := by
  have h := run_eq_t w 25 rfl (by kernel_rfl) t
  unfold tv at h ⊢
  rw [run_neq_struct, h]
  rfl
theorem guard_t (op : BinOp) (x y : Operand) (t u : Tm) : (eqGuard op 25 x y (tv t) (tv u)).run Try.prog w = .ok () w := run_eqGuard_agg w _ _ _ _ _ _ Try.eqGuardType25
abbrev six : Value := .agg #[.bool false, .bool false, .bool true, .bool false, .bool false, .bool true]
theorem run_eql_six : (binOp .eql 56 six six).run Try.prog w = .ok (.bool true) w := by kernel_rfl
theorem guard_six (x y : Operand) : (eqGuard .eql 56 x y six six).run Try.prog w = .ok () w := by kernel_rfl
end
end Go.Proofs.Ytgibindoblhkeaa
