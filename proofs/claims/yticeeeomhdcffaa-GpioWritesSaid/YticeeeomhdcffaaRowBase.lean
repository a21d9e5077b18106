/-
  What the rows of the gpio laws share: acts, and three bytes, as a caller hands them in. No condition of its own.
-/
import Derived.Test.YticeeeomhdcffaaPlaysW
import Derived.ProofKit
import Derived.OpenShut
import Derived.Deep.Slices
import Derived.Lib.SmallJoins
namespace Go.Proofs.Yticeeeomhdcffaa
open Go.ChangeShapes Go.WideShapes Go.ChangeAt Go.RowKit Go.Deep
set_option linter.unusedVariables false
theorem rbCells8 : Try.prog.cellsOf 5 = 1 := by kernel_rfl
theorem rbCellsI8 : Try.prog.cellsOf 26 = 1 := by kernel_rfl
theorem rbCells32 : Try.prog.cellsOf 21 = 1 := by kernel_rfl
theorem rbCellsX : Try.prog.cellsOf 28 = 3 := by kernel_rfl
theorem rbCells3 : Try.prog.cellsOf 42 = 3 := by kernel_rfl
theorem laid_out : laidOutB Try.prog = true := by kernel_rfl
theorem list3 {l : List Value} (h : l.length = 3) : ∃ a b c, l = [a, b, c] := by
  match l, h with
  | [a, b, c], _ => exact ⟨a, b, c, rfl⟩
theorem acts_of (H : Type) (enc : TypeId × Value → H) (W : World) (a0 : Option Addr) (len cap : Nat) (d : DataW H) (ps : List MemPlace) (h : DataW.Trod enc Try.prog W 0 (fun _ => true) true 22 (.slice a0 len cap) d ps) : len ≤ 9223372036854775807 ∧ ActsIn W a0 len := by
  obtain ⟨fuel, hf⟩ := h
  rcases open_slice Try.underlying22 hf with ⟨hcs, hx⟩ | ⟨a, len', cap', m, n, D, Pl, hcs, _, hl, hm, hmm, hx, hall⟩
  · simp [Value.cells] at hcs
    obtain ⟨rfl, rfl, rfl⟩ := hcs
    exact ⟨by omega, fun j hj => by omega⟩
  · simp [Value.cells] at hcs
    obtain ⟨rfl, rfl, rfl⟩ := hcs
    simp only [if_true] at hmm
    subst hmm
    refine ⟨by unfold maxLen at hm; omega, fun i hi => ?_⟩
    obtain ⟨cs', h1, h2⟩ := hall i (by omega)
    rw [rbCellsX] at h1
    obtain ⟨hb, hlen, hc⟩ := World.cells?_some h1
    obtain ⟨c0, c1, c2, rfl⟩ := list3 hlen
    obtain ⟨y0, y1, y2, n', hy, _, g0, g1, g2⟩ := Go.Deep.trod_struct3 Try.underlying28 h2
    simp only [rbCells8, rbCellsI8, rbCells32, List.drop_zero, List.drop_succ_cons, List.take_succ_cons, List.take_zero] at g0 g1 g2
    obtain ⟨K, e0, _, w0⟩ := DataW.trod_int Try.underlying5 g0
    obtain ⟨O, e1, _, w1⟩ := DataW.trod_int Try.underlying26 g1
    obtain ⟨T, e2, _, w2⟩ := DataW.trod_int Try.underlying21 g2
    simp only [List.cons.injEq, and_true] at e0 e1 e2
    subst e0 e1 e2
    have b0 := bounds_u8 w0
    have b1 := bounds_i8 w1
    have b2 := bounds_i32 w2
    have hcell : CellsA W (a.add (i * 3)) (xc K.toNat O T) := fun j v hv => by
      have hj := (List.getElem?_eq_some_iff.1 hv).1
      refine (hc j hj).trans ?_
      have hk : ((K.toNat : Nat) : Int) = K := by omega
      rw [← hv, xc, hk]
    refine ⟨a, rfl, ?_, K.toNat, O, T, by omega, b1.1, b1.2, b2.1, b2.2, hcell⟩
    have := World.block_lt_of_cell? _ _ (hcell 0 _ rfl)
    simpa only [add_block] using this
theorem okWide_array {P : Program} {w : World} {r : Reach} {base : Nat} {t e : TypeId} {n : Nat} {v : Value} (ht : P.underlying t = some (.array n e)) (h : Value.okWide P w r base t v) : ∃ cs, v = .agg cs ∧ cs.size = P.cellsOf t := by
  simp only [Value.okWide, ht] at h
  obtain ⟨cs, h1, h2, _⟩ := h
  exact ⟨cs, h1, h2⟩
theorem three_of (H : Type) (enc : TypeId × Value → H) (W : World) (v : Value) (d : DataW H) (ps : List MemPlace) (b0 : Nat) (hv : Value.okWide Try.prog W .any b0 42 v) (h : DataW.Trod enc Try.prog W 0 (fun _ => true) true 42 v d ps) :
    ∃ x y z : Nat, v = .agg #[.int .u8 (x : Int), .int .u8 (y : Int), .int .u8 (z : Int)] ∧ x < 256 ∧ y < 256 ∧ z < 256 := by
  obtain ⟨cs, rfl, hsz⟩ := okWide_array Try.underlying42 hv
  clear hv
  obtain ⟨fuel, hf⟩ := h
  obtain ⟨ls, rfl⟩ : ∃ l : List Value, cs = l.toArray := ⟨cs.toList, by simp⟩
  rw [rbCells3] at hsz
  have h3 : ls.length = 3 := by simpa using hsz
  obtain ⟨c0, c1, c2, rfl⟩ := list3 h3
  obtain ⟨xs, m, -, -, -, hxl, hel⟩ := DataW.trod_array Try.underlying42 hf
  have one : ∀ (i : Nat) (c : Value), i < 3 → [c0, c1, c2][i]? = some c → ∃ x : Nat, c = .int .u8 (x : Int) ∧ x < 256 := fun i c hi hc => by
    have h := hel i hi
    rw [rbCells8, List.getElem?_eq_getElem (by omega)] at h
    obtain ⟨x, e, -, wx⟩ := DataW.trod_int Try.underlying5 h
    have h8 : (List.drop (i * 1) [c0, c1, c2]).take 1 = [c] := by
      rw [Nat.mul_one, List.take_one, List.head?_drop, hc]
      rfl
    have e2 : [c] = [Value.int .u8 x] := h8.symm.trans e
    injection e2 with e3
    have hb := bounds_u8 wx
    exact ⟨x.toNat, by rw [e3]; congr 1; omega, by omega⟩
  obtain ⟨x0, rfl, k0⟩ := one 0 _ (by omega) rfl
  obtain ⟨x1, rfl, k1⟩ := one 1 _ (by omega) rfl
  obtain ⟨x2, rfl, k2⟩ := one 2 _ (by omega) rfl
  exact ⟨x0, x1, x2, rfl, k0, k1, k2⟩
end Go.Proofs.Yticeeeomhdcffaa
