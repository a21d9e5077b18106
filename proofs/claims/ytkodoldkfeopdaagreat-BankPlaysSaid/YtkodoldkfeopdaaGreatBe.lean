/-
  A bank is the same as itself, and each device: what == and != answer of two alike; arrays of registers. Made by wip/genbankeq.py.
-/
import Derived.Test.YtkodoldkfeopdaaGreatB
import Derived.Test.YtkodoldkfeopdaaGreatSelf
namespace Go.Proofs.YtkodoldkfeopdaaGreat
open Go.RowKit
set_option linter.unusedVariables false
set_option maxRecDepth 100000
theorem eight_pad (l : List Nat) : ∃ x0 x1 x2 x3 x4 x5 x6 x7, Ua.pad l = [x0, x1, x2, x3, x4, x5, x6, x7] := Ua.eight (Ua.pad_length l)
section
variable (w : World)
theorem eql_b (b : Bk) : (binOp .eql 37 (bv b) (bv b)).run Tryz.prog w = .ok (.bool true) w := by
  obtain ⟨x0, x1, x2, x3, x4, x5, x6, x7, hx⟩ := eight_pad b.R
  obtain ⟨y0, y1, y2, y3, y4, y5, y6, y7, hy⟩ := eight_pad b.T
  unfold bv bc ucs
  rw [hx, hy]
  exact self_eql w _ _ rfl (by kernel_rfl)
theorem neq_b (b : Bk) : (binOp .neq 37 (bv b) (bv b)).run Tryz.prog w = .ok (.bool false) w := by
  obtain ⟨x0, x1, x2, x3, x4, x5, x6, x7, hx⟩ := eight_pad b.R
  obtain ⟨y0, y1, y2, y3, y4, y5, y6, y7, hy⟩ := eight_pad b.T
  unfold bv bc ucs
  rw [hx, hy]
  exact self_neq w _ _ rfl (by kernel_rfl)
theorem eql_ua (b : Bk) : (binOp .eql 29 (.agg (ucs b).toArray) (.agg (ucs b).toArray)).run Tryz.prog w = .ok (.bool true) w := by
  obtain ⟨x0, x1, x2, x3, x4, x5, x6, x7, hx⟩ := eight_pad b.R
  obtain ⟨y0, y1, y2, y3, y4, y5, y6, y7, hy⟩ := eight_pad b.T
  unfold ucs
  rw [hx, hy]
  exact self_eql w _ _ rfl (by kernel_rfl)
theorem neq_ua (b : Bk) : (binOp .neq 29 (.agg (ucs b).toArray) (.agg (ucs b).toArray)).run Tryz.prog w = .ok (.bool false) w := by
  obtain ⟨x0, x1, x2, x3, x4, x5, x6, x7, hx⟩ := eight_pad b.R
  obtain ⟨y0, y1, y2, y3, y4, y5, y6, y7, hy⟩ := eight_pad b.T
  unfold ucs
  rw [hx, hy]
  exact self_neq w _ _ rfl (by kernel_rfl)
theorem eql_gp (o i e : Nat) : (binOp .eql 24 (.agg (Gp.gc o i e).toArray) (.agg (Gp.gc o i e).toArray)).run Tryz.prog w = .ok (.bool true) w := by
  exact self_eql w _ _ rfl (by kernel_rfl)
theorem eql_rgp (o i e : Nat) : (binOp .eql 38 (.agg (Gp.gc o i e).toArray) (.agg (Gp.gc o i e).toArray)).run Tryz.prog w = .ok (.bool true) w := by
  exact self_eql w _ _ rfl (by kernel_rfl)
theorem eql_iq (q : Iq.Ic) : (binOp .eql 35 (.agg (Iq.icc q).toArray) (.agg (Iq.icc q).toArray)).run Tryz.prog w = .ok (.bool true) w := by
  exact self_eql w _ _ rfl (by kernel_rfl)
theorem eql_riq (q : Iq.Ic) : (binOp .eql 44 (.agg (Iq.icc q).toArray) (.agg (Iq.icc q).toArray)).run Tryz.prog w = .ok (.bool true) w := by
  exact self_eql w _ _ rfl (by kernel_rfl)
theorem neq_ti (t : Ti.Tm) : (binOp .neq 32 (Ti.tv t) (Ti.tv t)).run Tryz.prog w = .ok (.bool false) w := by
  unfold Ti.tv
  exact self_neq w _ [_, _, _] rfl (by kernel_rfl)
theorem neq_rti (t : Ti.Tm) : (binOp .neq 42 (Ti.tv t) (Ti.tv t)).run Tryz.prog w = .ok (.bool false) w := by
  unfold Ti.tv
  exact self_neq w _ [_, _, _] rfl (by kernel_rfl)
theorem eql_all (b : Bk) : (binOp .eql 69 (.agg (allB b).toArray) (.agg (allB b).toArray)).run Tryz.prog w = .ok (.bool true) w := by
  exact self_eql w _ _ rfl (by kernel_rfl)
theorem neq_all (b : Bk) : (binOp .neq 69 (.agg (allB b).toArray) (.agg (allB b).toArray)).run Tryz.prog w = .ok (.bool false) w := by
  exact self_neq w _ _ rfl (by kernel_rfl)
theorem eql_by (l : List Nat) : (binOp .eql 25 (.agg (Ua.bvals (Ua.pad l)).toArray) (.agg (Ua.bvals (Ua.pad l)).toArray)).run Tryz.prog w = .ok (.bool true) w := by
  obtain ⟨x0, x1, x2, x3, x4, x5, x6, x7, hx⟩ := eight_pad l
  rw [hx]
  exact self_eql w _ _ rfl (by kernel_rfl)
theorem guard_b (op : BinOp) (x y : Operand) (p q : Array Value) : (eqGuard op 37 x y (.agg p) (.agg q)).run Tryz.prog w = .ok () w := run_eqGuard_agg w _ _ _ _ _ _ (by kernel_rfl)
theorem guard_ua (op : BinOp) (x y : Operand) (p q : Array Value) : (eqGuard op 29 x y (.agg p) (.agg q)).run Tryz.prog w = .ok () w := run_eqGuard_agg w _ _ _ _ _ _ (by kernel_rfl)
theorem guard_gp (op : BinOp) (x y : Operand) (p q : Array Value) : (eqGuard op 24 x y (.agg p) (.agg q)).run Tryz.prog w = .ok () w := run_eqGuard_agg w _ _ _ _ _ _ (by kernel_rfl)
theorem guard_rgp (op : BinOp) (x y : Operand) (p q : Array Value) : (eqGuard op 38 x y (.agg p) (.agg q)).run Tryz.prog w = .ok () w := run_eqGuard_agg w _ _ _ _ _ _ (by kernel_rfl)
theorem guard_iq (op : BinOp) (x y : Operand) (p q : Array Value) : (eqGuard op 35 x y (.agg p) (.agg q)).run Tryz.prog w = .ok () w := run_eqGuard_agg w _ _ _ _ _ _ (by kernel_rfl)
theorem guard_riq (op : BinOp) (x y : Operand) (p q : Array Value) : (eqGuard op 44 x y (.agg p) (.agg q)).run Tryz.prog w = .ok () w := run_eqGuard_agg w _ _ _ _ _ _ (by kernel_rfl)
theorem guard_ti (op : BinOp) (x y : Operand) (p q : Array Value) : (eqGuard op 32 x y (.agg p) (.agg q)).run Tryz.prog w = .ok () w := run_eqGuard_agg w _ _ _ _ _ _ (by kernel_rfl)
theorem guard_rti (op : BinOp) (x y : Operand) (p q : Array Value) : (eqGuard op 42 x y (.agg p) (.agg q)).run Tryz.prog w = .ok () w := run_eqGuard_agg w _ _ _ _ _ _ (by kernel_rfl)
theorem guard_all (op : BinOp) (x y : Operand) (p q : Array Value) : (eqGuard op 69 x y (.agg p) (.agg q)).run Tryz.prog w = .ok () w := run_eqGuard_agg w _ _ _ _ _ _ (by kernel_rfl)
theorem guard_by (op : BinOp) (x y : Operand) (p q : Array Value) : (eqGuard op 25 x y (.agg p) (.agg q)).run Tryz.prog w = .ok () w := run_eqGuard_agg w _ _ _ _ _ _ (by kernel_rfl)
theorem guard_bv (op : BinOp) (x y : Operand) (b d : Bk) : (eqGuard op 37 x y (bv b) (bv d)).run Tryz.prog w = .ok () w := guard_b w op x y _ _
theorem guard_tv (op : BinOp) (x y : Operand) (t u : Ti.Tm) : (eqGuard op 32 x y (Ti.tv t) (Ti.tv u)).run Tryz.prog w = .ok () w := guard_ti w op x y _ _
theorem guard_rtv (op : BinOp) (x y : Operand) (t u : Ti.Tm) : (eqGuard op 42 x y (Ti.tv t) (Ti.tv u)).run Tryz.prog w = .ok () w := guard_rti w op x y _ _
end
end Go.Proofs.YtkodoldkfeopdaaGreat
