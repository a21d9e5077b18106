/-
  What the rows of the fifo laws share: a queue, and a slice of bytes, as a caller hands them in. No condition of its own.
-/
import Derived.Test.YtebapciapnebgaaRows
import Derived.Test.YtebapciapnebgaaWorks
import Derived.ProofKit
import Derived.OpenShut
import Derived.Lib.SmallJoins
namespace Go.Proofs.Ytebapciapnebgaa
open Go.ChangeShapes Go.WideShapes Go.ChangeAt Go.RowKit
set_option linter.unusedVariables false
theorem rbCellsB : Try.prog.cellsOf 5 = 1 := by kernel_rfl
theorem rbCellsA : Try.prog.cellsOf 22 = 8 := by kernel_rfl
theorem rbCellsQ : Try.prog.cellsOf 24 = 9 := by kernel_rfl
theorem laid_out : laidOutB Try.prog = true := by kernel_rfl
theorem bytes_of (H : Type) (enc : TypeId × Value → H) (W : World) (a0 : Option Addr) (len cap : Nat) (d : DataW H) (ps : List MemPlace) (h : DataW.Trod enc Try.prog W 0 (fun _ => true) true 25 (.slice a0 len cap) d ps) :
    ∃ l : List Nat, l.length = len ∧ len ≤ cap ∧ (∀ x ∈ l, x < 256) ∧ RdB W W.heap.size a0 l := by
  obtain ⟨fuel, hf⟩ := h
  rcases open_ints Try.underlying25 Try.underlying5 rbCellsB hf with ⟨hcs, hx⟩ | ⟨a, len', cap', zs, hcs, _, hl, hm, hz, hx, hcell, hwz⟩
  · simp [Value.cells] at hcs
    obtain ⟨rfl, rfl, rfl⟩ := hcs
    exact ⟨[], rfl, Nat.le_refl _, by simp, RdB.nil_ _ _⟩
  · simp [Value.cells] at hcs
    obtain ⟨rfl, rfl, rfl⟩ := hcs
    simp only [if_true] at hz
    have hbz : ∀ z ∈ zs, 0 ≤ z ∧ z < 256 := fun z h => ⟨(bounds_u8 (hwz z h)).1, by have := (bounds_u8 (hwz z h)).2; omega⟩
    have hll : ((zs.take len).map Int.toNat).length = len := by rw [List.length_map, List.length_take]; omega
    have hget : ∀ (j x : Nat), ((zs.take len).map Int.toNat)[j]? = some x → W.cell? (a.add j) = some (.int .u8 (x : Int)) := fun j x hj => by
      simp only [List.getElem?_map, Option.map_eq_some_iff] at hj
      obtain ⟨z, hz1, rfl⟩ := hj
      have hjl : j < len := by
        have := (List.getElem?_eq_some_iff.1 hz1).1
        rw [List.length_take] at this; omega
      rw [List.getElem?_take_of_lt hjl] at hz1
      obtain ⟨hj2, hz2⟩ := List.getElem?_eq_some_iff.1 hz1
      have hz3 := hbz z (by rw [← hz2]; exact List.getElem_mem hj2)
      rw [hcell j hj2]
      congr 2
      rw [List.getD_eq_getElem?_getD, List.getElem?_eq_getElem hj2, hz2]
      simp only [Option.getD_some]
      omega
    refine ⟨(zs.take len).map Int.toNat, hll, hl, fun y hy => ?_, fun h => (by cases h), fun a' ha' hn => ?_, fun a' ha' j x hj => ?_⟩
    · simp only [List.mem_map] at hy
      obtain ⟨z, hz1, rfl⟩ := hy
      have := hbz z (List.mem_of_mem_take hz1)
      omega
    · cases ha'
      obtain ⟨x, hx0⟩ : ∃ x, ((zs.take len).map Int.toNat)[0]? = some x := by
        cases hc : (zs.take len).map Int.toNat with
        | nil => exact absurd hc hn
        | cons y r => exact ⟨y, rfl⟩
      have := World.block_lt_of_cell? W _ (hget 0 x hx0)
      rwa [add_block] at this
    · cases ha'
      exact hget j x hj
theorem queue_of (H : Type) (enc : TypeId × Value → H) (W : World) (b0 : Nat) (v : Value) (d : DataW H) (ps : List MemPlace) (hv : Value.okWide Try.prog W .any b0 24 v) (h : DataW.Trod enc Try.prog W 0 (fun _ => true) true 24 v d ps) :
    ∃ (n : Int) (b0 b1 b2 b3 b4 b5 b6 b7 : Nat), v = q8 n b0 b1 b2 b3 b4 b5 b6 b7 ∧ -9223372036854775808 ≤ n ∧ n ≤ 9223372036854775807 ∧ ∀ x ∈ [b0, b1, b2, b3, b4, b5, b6, b7], x < 256 := by
  obtain ⟨cs, rfl, hsz⟩ := okWide_struct Try.underlying24 hv
  clear hv
  obtain ⟨fuel, hf⟩ := h
  obtain ⟨ls, rfl⟩ : ∃ l : List Value, cs = l.toArray := ⟨cs.toList, by simp⟩
  rw [rbCellsQ] at hsz
  have h9 : ls.length = 9 := by simpa using hsz
  match ls, h9 with
  | [c0, c1, c2, c3, c4, c5, c6, c7, c8], _ =>
    obtain ⟨y0, y1, n, -, -, h0, h1⟩ := trod_struct2 Try.underlying24 hf
    obtain ⟨xs, m, -, -, -, hxl, hel⟩ := DataW.trod_array Try.underlying22 h1
    have ci : Try.prog.cellsOf 3 = 1 := by kernel_rfl
    rw [show (⟨"Len", 3, 0, false, "", "", 0⟩ : Field).type = 3 from rfl, ci] at h0
    obtain ⟨z, e0, -, w0⟩ := DataW.trod_int Try.underlying3 h0
    obtain rfl : c0 = .int .i64 z := by simpa [Value.cells] using e0
    have one : ∀ (i : Nat) (c : Value), i < 8 → [c1, c2, c3, c4, c5, c6, c7, c8][i]? = some c → ∃ x : Nat, c = .int .u8 (x : Int) ∧ x < 256 := fun i c hi hc => by
      have h := hel i hi
      rw [rbCellsB, show (⟨"Bytes", 22, 1, false, "", "", 8⟩ : Field).type = 22 from rfl, rbCellsA, List.getElem?_eq_getElem (by omega)] at h
      obtain ⟨x, e, -, wx⟩ := DataW.trod_int Try.underlying5 h
      have h8 : (List.drop (i * 1) (List.take 8 (List.drop 1 [Value.int .i64 z, c1, c2, c3, c4, c5, c6, c7, c8]))).take 1 = [c] := by
        have h2 : List.take 8 (List.drop 1 [Value.int .i64 z, c1, c2, c3, c4, c5, c6, c7, c8]) = [c1, c2, c3, c4, c5, c6, c7, c8] := rfl
        rw [h2, Nat.mul_one, List.take_one, List.head?_drop, hc]
        rfl
      have e2 : [c] = [Value.int .u8 x] := h8.symm.trans e
      injection e2 with e3
      have hb := bounds_u8 wx
      exact ⟨x.toNat, by rw [e3]; congr 1; omega, by omega⟩
    obtain ⟨x1, rfl, k1⟩ := one 0 _ (by omega) rfl
    obtain ⟨x2, rfl, k2⟩ := one 1 _ (by omega) rfl
    obtain ⟨x3, rfl, k3⟩ := one 2 _ (by omega) rfl
    obtain ⟨x4, rfl, k4⟩ := one 3 _ (by omega) rfl
    obtain ⟨x5, rfl, k5⟩ := one 4 _ (by omega) rfl
    obtain ⟨x6, rfl, k6⟩ := one 5 _ (by omega) rfl
    obtain ⟨x7, rfl, k7⟩ := one 6 _ (by omega) rfl
    obtain ⟨x8, rfl, k8⟩ := one 7 _ (by omega) rfl
    have hz := bounds_i64 w0
    exact ⟨z, x1, x2, x3, x4, x5, x6, x7, x8, rfl, hz.1, hz.2, by simp; omega⟩
end Go.Proofs.Ytebapciapnebgaa
