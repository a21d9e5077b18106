/-
  Laws for what follows: loads behind a guard; new rows of bytes.
-/
import Derived.Test.YtebapciapnebgaaAlike
import Derived.BigFrame
namespace Go.Proofs.Ytebapciapnebgaa
open Go.RowKit
set_option linter.unusedVariables false
theorem wpList_load_w {P : Program} {ops : Array Oper} {rest : List Oper} {o : Oper} {a : Act} {w : World} {Q : Exit → Act → World → Prop} (hw : Region.wanted o (yielded ops a.tmps) = true) (ty : TypeId) (x : Operand) (ho : o.op = .load ty x) (g : Nat) (hx : a.eval x = .pointer (some ⟨g, 0, none⟩))
    (fs : Array Field) (hu : P.underlying ty = some (.struct fs)) (hi : (P.info? ty).map (·.size) = some 9) (t : TypeId) (n : Int) (bs : List Nat) (hr : QRow w g t n bs) (hb : bs.length = 8)
    (h : wpList P ops Q rest (a.put o.dst (qv n bs)) w) : wpList P ops Q (o :: rest) a w :=
  BigFrame.wpList_want hw fun _ hK => by
    unfold Oper.wp execOp
    simp only [ho, hx, Instr.loadAt, Instr.sureAddr, Sem.run_bind, Sem.run_pure, Result.andThen_ok, run_loadVar_q w g ty fs hu hi t n bs hr hb]
    exact hK _ _ h
theorem wp_load_q {P : Program} {o : Oper} {a : Act} {w : World} {K : Act → World → Prop} {Q : Exit → Act → World → Prop} (ty : TypeId) (x : Operand) (ho : o.op = .load ty x) (g : Nat) (hx : a.eval x = .pointer (some ⟨g, 0, none⟩))
    (fs : Array Field) (hu : P.underlying ty = some (.struct fs)) (hi : (P.info? ty).map (·.size) = some 9) (t : TypeId) (n : Int) (bs : List Nat) (hr : QRow w g t n bs) (hb : bs.length = 8)
    (h : K (a.put o.dst (qv n bs)) w) : o.wp P a w K Q :=
  wp_load_row ty x ho g 0 hx (.int .i64 n :: bvals bs) _ (row_cells hr) hu rfl (by rw [hi]; simp [bvals, hb]) h
theorem rdb_new (W : World) (l : List Nat) (t : TypeId) : RdB (W.alloc (.cells (bvals l).toArray t)) (W.alloc (.cells (bvals l).toArray t)).heap.size (some ⟨W.heap.size, 0, none⟩) l :=
  ⟨fun h => (by cases h), fun a ha _ => (by cases ha; simp), fun a ha j x hx => (by cases ha; exact new_cells W (bvals l) t j _ (by simp [bvals, hx]))⟩
end Go.Proofs.Ytebapciapnebgaa
