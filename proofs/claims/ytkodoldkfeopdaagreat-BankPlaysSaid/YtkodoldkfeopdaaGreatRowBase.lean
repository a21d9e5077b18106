/-
  What the rows of the bank laws share: acts, one and many, as a caller hands them in. No condition of its own.
-/
import Derived.Test.YtkodoldkfeopdaaGreatRows
import Derived.Test.YtkodoldkfeopdaaGreatPd
import Derived.ProofKit
import Derived.OpenShut
import Derived.Deep.Slices
import Derived.Deep.Strs
import Derived.Lib.SmallJoins
namespace Go.Proofs.YtkodoldkfeopdaaGreat
open Go.ChangeShapes Go.WideShapes Go.ChangeAt Go.RowKit Go.Deep
set_option linter.unusedVariables false
set_option maxRecDepth 100000
theorem rbCellsX : Tryz.prog.cellsOf 49 = 3 := by kernel_rfl
theorem rbCellsU8 : Tryz.prog.cellsOf 5 = 1 := by kernel_rfl
theorem rbCellsI8 : Tryz.prog.cellsOf 47 = 1 := by kernel_rfl
theorem rbCellsI32 : Tryz.prog.cellsOf 21 = 1 := by kernel_rfl
theorem laid_out : laidOutB Tryz.prog = true := by kernel_rfl
theorem list3 {l : List Value} (h : l.length = 3) : ∃ a b c, l = [a, b, c] := by
  match l, h with
  | [a, b, c], _ => exact ⟨a, b, c, rfl⟩
theorem acts_of (H : Type) (enc : TypeId × Value → H) (W : World) (a0 : Option Addr) (len cap : Nat) (d : DataW H) (ps : List MemPlace) (h : DataW.Trod enc Tryz.prog W 0 (fun _ => true) true 22 (.slice a0 len cap) d ps) : len ≤ 9223372036854775807 ∧ ActsIn W a0 len := by
  obtain ⟨fuel, hf⟩ := h
  rcases open_slice Tryz.underlying22 hf with ⟨hcs, hx⟩ | ⟨a, len', cap', m, n, D, Pl, hcs, _, hl, hm, hmm, hx, hall⟩
  · simp [Value.cells] at hcs
    obtain ⟨rfl, rfl, rfl⟩ := hcs
    exact ⟨by omega, fun j hj => by omega⟩
  · simp [Value.cells] at hcs
    obtain ⟨rfl, rfl, rfl⟩ := hcs
    simp only [if_true] at hmm
    subst hmm
    refine ⟨by unfold maxLen at hm; omega, fun i hi => ?_⟩
    obtain ⟨cs', h1, h2⟩ := hall i (by omega)
    rw [rbCellsX] at h1
    obtain ⟨hb, hlen, hc⟩ := World.cells?_some h1
    obtain ⟨c0, c1, c2, rfl⟩ := list3 hlen
    obtain ⟨y0, y1, y2, n', hy, _, g0, g1, g2⟩ := trod_struct3 Tryz.underlying49 h2
    simp only [rbCellsU8, rbCellsI8, rbCellsI32, List.drop_zero, List.drop_succ_cons, List.take_succ_cons, List.take_zero] at g0 g1 g2
    obtain ⟨K, e0, _, w0⟩ := DataW.trod_int Tryz.underlying5 g0
    obtain ⟨O, e1, _, w1⟩ := DataW.trod_int Tryz.underlying47 g1
    obtain ⟨V, e2, _, w2⟩ := DataW.trod_int Tryz.underlying21 g2
    simp only [List.cons.injEq, and_true] at e0 e1 e2
    subst e0 e1 e2
    have b0 := bounds_u8 w0
    have b1 := bounds_i8 w1
    have b2 := bounds_i32 w2
    have hk : ((K.toNat : Nat) : Int) = K := by omega
    have hc0 : W.cell? (a.add (i * 3)) = some (.int .u8 K) := hc 0 (by decide)
    refine ⟨a, rfl, ?_, ⟨K.toNat, O, V⟩, by show K.toNat < 256; omega, b1.1, b1.2, b2.1, b2.2, fun j v hv => ?_⟩
    · have := World.block_lt_of_cell? _ _ hc0
      simpa only [add_block] using this
    · rcases j with _ | _ | _ | j
      · simp only [xc, List.getElem?_cons_zero, Option.some.injEq] at hv
        subst hv
        show W.cell? (a.add (i * 3)) = some (.int .u8 ((K.toNat : Nat) : Int))
        rw [hk]
        exact hc0
      · simp only [xc, List.getElem?_cons_succ, List.getElem?_cons_zero, Option.some.injEq] at hv
        subst hv
        exact hc 1 (by decide)
      · simp only [xc, List.getElem?_cons_succ, List.getElem?_cons_zero, Option.some.injEq] at hv
        subst hv
        exact hc 2 (by decide)
      · simp [xc] at hv
theorem act_of (H : Type) (enc : TypeId × Value → H) (W : World) (v : Value) (d : DataW H) (ps : List MemPlace) (b0 : Nat) (hv : Value.okWide Tryz.prog W .any b0 49 v) (h : DataW.Trod enc Tryz.prog W 0 (fun _ => true) true 49 v d ps) :
    ∃ x : Ax, v = .agg (xc x).toArray ∧ -128 ≤ x.rg ∧ x.rg ≤ 127 ∧ -2147483648 ≤ x.v ∧ x.v ≤ 2147483647 := by
  obtain ⟨cs, rfl, hsz⟩ := okWide_struct Tryz.underlying49 hv
  clear hv
  obtain ⟨fuel, hf⟩ := h
  obtain ⟨ls, rfl⟩ : ∃ l : List Value, cs = l.toArray := ⟨cs.toList, by simp⟩
  rw [rbCellsX] at hsz
  obtain ⟨c0, c1, c2, rfl⟩ := list3 (by simpa using hsz)
  obtain ⟨y0, y1, y2, n', hy, _, g0, g1, g2⟩ := trod_struct3 Tryz.underlying49 hf
  simp only [Value.cells, rbCellsU8, rbCellsI8, rbCellsI32, List.drop_zero, List.drop_succ_cons, List.take_succ_cons, List.take_zero] at g0 g1 g2
  obtain ⟨K, e0, _, w0⟩ := DataW.trod_int Tryz.underlying5 g0
  obtain ⟨O, e1, _, w1⟩ := DataW.trod_int Tryz.underlying47 g1
  obtain ⟨V, e2, _, w2⟩ := DataW.trod_int Tryz.underlying21 g2
  simp only [List.cons.injEq, and_true] at e0 e1 e2
  subst e0 e1 e2
  have k0 := bounds_u8 w0
  have k1 := bounds_i8 w1
  have k2 := bounds_i32 w2
  exact ⟨⟨K.toNat, O, V⟩, by unfold xc; rw [show ((K.toNat : Nat) : Int) = K by omega], k1.1, k1.2, k2.1, k2.2⟩
end Go.Proofs.YtkodoldkfeopdaaGreat
