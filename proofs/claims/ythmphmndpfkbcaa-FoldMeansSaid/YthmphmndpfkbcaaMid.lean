/-
  The middle of expression: the box and the result's cells, and what lies beside them. A store into a row whose content is known. No walk.
-/
import Derived.Test.YthmphmndpfkbcaaEach
namespace Go.Proofs.Ythmphmndpfkbcaa
open Go.RowKit
section
variable {P : Program}
theorem wpList_store_row {ops : Array Oper} {rest : List Oper} {o : Oper} {a : Act} {w : World} {Q : Exit → Act → World → Prop} (hgd : o.guard = none) (ty : TypeId) (x v : Operand) (ho : o.op = .store ty x v)
    (g off : Nat) (hx : a.eval x = .pointer (some ⟨g, off, none⟩)) (cs : List Value) (hv : (a.eval v).cells = cs.toArray) (hi : (P.info? ty).map (·.size) = some cs.length)
    (cur new : List Value) (t : TypeId) (hrow : w.heap[g]? = some (.cells cur.toArray t (0, 0))) (hfit : off + cs.length ≤ cur.length) (h1 : ∀ u ∈ cs, u.oneCell' = true) (hnew : cur.take off ++ cs ++ cur.drop (off + cs.length) = new)
    (h : wpList P ops Q rest (a.put o.dst undef) (w.setRow g new.toArray)) : wpList P ops Q (o :: rest) a w :=
  wpList_plain hgd fun _ hK => by
    have hst := run_storeCells_at P g off t cs 0 cur.toArray w hrow (by simpa using hfit) h1
    simp only [Nat.add_zero] at hst
    rw [hnew] at hst
    cases hq : P.info? ty with
    | none => simp [hq] at hi
    | some i =>
      have hs : i.size = cs.length := by simpa [hq] using hi
      have hsv : (storeVar ty ⟨g, off, none⟩ (a.eval v)).run P w = .ok () (w.setRow g new.toArray) := by
        simp [storeVar, Sem.run_bind, sizeOf, typeInfo, hq, hs, hv, hst]
      unfold Oper.wp execOp
      simp only [ho, hx, Instr.storeAt, Instr.sureAddr, Sem.run_bind, Sem.run_pure, Result.andThen_ok, hsv]
      exact hK _ _ h
end
theorem setRow_size (w : World) (g : Nat) (cs : Array Value) : (w.setRow g cs).heap.size = w.heap.size := by simp [World.setRow]
theorem setRow_below {B : Nat} {a w : World} (h : Below B a w) {g : Nat} (hg : B ≤ g) (cs : Array Value) : Below B a (w.setRow g cs) :=
  h.trans ⟨rfl, rfl, rfl, by rw [setRow_size]; exact Nat.le_refl _, fun k hk => setRow_other w g k cs (by omega)⟩
theorem row_at {w : World} {g : Nat} {cs : List Value} {t : TypeId} (h : w.heap[g]? = some (.cells cs.toArray t (0, 0))) (j : Nat) (v : Value) (hv : cs[j]? = some v) : w.cell? ⟨g, j, none⟩ = some v := by
  rw [cell_of_row _ _ _ _ _ _ h]
  simpa using hv
theorem row_cells {w : World} {g : Nat} {cs : List Value} {t : TypeId} (h : w.heap[g]? = some (.cells cs.toArray t (0, 0))) : CellsAt w g 0 cs := fun j v hv => by
  rw [Nat.zero_add]
  exact row_at h j v hv
abbrev zeroL : List Value := [.int .i64 0, .int .i64 0, .string ⟨#[]⟩, .string ⟨#[]⟩, .int .i64 0, .int .i64 0, .int .i64 0, .slice none 0 0]
/-- Behind the operands. -/
structure Mid (w : World) (cs : List Value) (A : Option Nat) (args : List Ex) (S : Nat → Prop) (fp : Nat) (W : World) : Prop where
  box : W.heap[w.heap.size]? = some (.cells cs.toArray 27 (0, 0))
  res : W.heap[w.heap.size + 1]? = some (.cells zeroL.toArray 27 (0, 0))
  sl : SlIn S W A args
  low : ∀ b, S b → w.heap.size + 2 ≤ b ∧ b < W.heap.size
  fold : Folder W fp
  below : Below w.heap.size w W
  size : w.heap.size + 2 ≤ W.heap.size
theorem Mid.under {w : World} {cs : List Value} {A : Option Nat} {args : List Ex} {S : Nat → Prop} {fp : Nat} {W W' : World} (h : Mid w cs A args S fp W) (hb : Below W.heap.size W W') : Mid w cs A args S fp W' := by
  have hs := hb.size
  have hz := h.size
  refine ⟨?_, ?_, h.sl.under hb (fun b hb => (h.low b hb).2), fun b hb => by have := h.low b hb; omega, h.fold.below hb (Nat.le_refl _), h.below.trans (hb.mono (by omega)), by omega⟩
  · rw [hb.block _ (by omega)]
    exact h.box
  · rw [hb.block _ (by omega)]
    exact h.res
/-- The box is stored into. -/
theorem Mid.put {w : World} {cs cs' : List Value} {A : Option Nat} {args : List Ex} {S : Nat → Prop} {fp : Nat} {W : World} (h : Mid w cs A args S fp W) (hm : Folder w fp) : Mid w cs' A args S fp (W.setRow w.heap.size cs'.toArray) := by
  have hb := setRow_below h.below (Nat.le_refl _) cs'.toArray
  refine ⟨setRow_heap _ _ _ _ _ _ h.box, ?_, h.sl.keep (fun _ h => h) (fun b hb j v hv => ?_), fun b hb => by rw [setRow_size]; exact h.low b hb, hm.below hb (Nat.le_refl _), hb, by rw [setRow_size]; exact h.size⟩
  · rw [setRow_other _ _ _ _ (by omega)]
    exact h.res
  · rw [World.cell?_of_block (setRow_other W w.heap.size b _ (by have := (h.low b hb).1; omega))]
    exact hv
/-- The result is stored. -/
structure Fin (w : World) (cs : List Value) (A : Option Nat) (args : List Ex) (S : Nat → Prop) (W : World) : Prop where
  res : W.heap[w.heap.size + 1]? = some (.cells cs.toArray 27 (0, 0))
  sl : SlIn S W A args
  low : ∀ b, S b → w.heap.size ≤ b ∧ b < W.heap.size
  below : Below w.heap.size w W
theorem Mid.fin {w : World} {cs cs' : List Value} {A : Option Nat} {args : List Ex} {S : Nat → Prop} {fp : Nat} {W : World} (h : Mid w cs A args S fp W) : Fin w cs' A args S (W.setRow (w.heap.size + 1) cs'.toArray) := by
  refine ⟨setRow_heap _ _ _ _ _ _ h.res, h.sl.keep (fun _ h => h) (fun b hb j v hv => ?_), fun b hb => by rw [setRow_size]; have := h.low b hb; omega, setRow_below h.below (by omega) _⟩
  rw [World.cell?_of_block (setRow_other W (w.heap.size + 1) b _ (by have := (h.low b hb).1; omega))]
  exact hv
theorem Fin.none {w : World} {cs : List Value} {A : Option Nat} {args : List Ex} {S : Nat → Prop} {W : World} (h : Fin w cs A args S W) : Fin w cs none [] (fun _ => False) W :=
  ⟨h.res, .nil, fun _ h => h.elim, h.below⟩
end Go.Proofs.Ythmphmndpfkbcaa
