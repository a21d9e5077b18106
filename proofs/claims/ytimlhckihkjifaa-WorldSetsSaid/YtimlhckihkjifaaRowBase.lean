/-
  What the rows of the world laws share: drafts and inputs, one and many, as a caller hands them in. No condition of its own.
-/
import Derived.Test.YtimlhckihkjifaaRows
import Derived.Test.YtimlhckihkjifaaRg
import Derived.ProofKit
import Derived.OpenShut
import Derived.Deep.Slices
import Derived.Deep.Strs
import Derived.Lib.SmallJoins
namespace Go.Proofs.Ytimlhckihkjifaa
open Go.ChangeShapes Go.WideShapes Go.ChangeAt Go.RowKit Go.Deep
set_option linter.unusedVariables false
set_option linter.unusedSimpArgs false
set_option maxRecDepth 100000
theorem rbCellsD : Try.prog.cellsOf 42 = 3 := by kernel_rfl
theorem rbCellsN : Try.prog.cellsOf 25 = 3 := by kernel_rfl
theorem rbCellsU8 : Try.prog.cellsOf 5 = 1 := by kernel_rfl
theorem rbCellsI : Try.prog.cellsOf 3 = 1 := by kernel_rfl
theorem laid_out : laidOutB Try.prog = true := by kernel_rfl
theorem list3 {l : List Value} (h : l.length = 3) : ∃ a b c, l = [a, b, c] := by
  match l, h with
  | [a, b, c], _ => exact ⟨a, b, c, rfl⟩
theorem list_of {X : Type} {P : Nat → X → Prop} : ∀ n : Nat, (∀ j, j < n → ∃ x, P j x) → ∃ l : List X, l.length = n ∧ ∀ j x, l[j]? = some x → P j x
  | 0, _ => ⟨[], rfl, fun j x h => by simp at h⟩
  | n + 1, h => by
    obtain ⟨l, hl, hp⟩ := list_of n (fun j hj => h j (by omega))
    obtain ⟨x, hx⟩ := h n (by omega)
    refine ⟨l ++ [x], by simp [hl], fun j y hy => ?_⟩
    rcases Nat.lt_or_ge j l.length with h1 | h1
    · rw [List.getElem?_append_left h1] at hy
      exact hp j y hy
    · rw [List.getElem?_append_right h1] at hy
      obtain ⟨h2, rfl⟩ := List.getElem?_eq_some_iff.1 hy
      simp only [List.length_singleton] at h2
      obtain rfl : j = n := by omega
      simpa using hx
theorem drafts_of (H : Type) (enc : TypeId × Value → H) (W : World) (a0 : Option Addr) (len cap : Nat) (d : DataW H) (ps : List MemPlace) (h : DataW.Trod enc Try.prog W 0 (fun _ => true) true 23 (.slice a0 len cap) d ps) : ∃ l : List Dr, l.length = len ∧ DIn W W.heap.size a0 l := by
  obtain ⟨fuel, hf⟩ := h
  rcases open_slice Try.underlying23 hf with ⟨hcs, hx⟩ | ⟨a, len', cap', m, n, D, Pl, hcs, _, hl, hm, hmm, hx, hall⟩
  · simp [Value.cells] at hcs
    obtain ⟨rfl, rfl, rfl⟩ := hcs
    exact ⟨[], rfl, by simp, by simp, fun j x hj => by simp at hj⟩
  · simp [Value.cells] at hcs
    obtain ⟨rfl, rfl, rfl⟩ := hcs
    simp only [if_true] at hmm
    subst hmm
    have key : ∀ i, i < len → ∃ x : Dr, x.ok ∧ a.block < W.heap.size ∧ CellsA W (a.add (i * 3)) (dc x) := fun i hi => by
      obtain ⟨cs', h1, h2⟩ := hall i (by omega)
      rw [rbCellsD] at h1
      obtain ⟨hb, hlen, hc⟩ := World.cells?_some h1
      obtain ⟨c0, c1, c2, rfl⟩ := list3 hlen
      obtain ⟨y0, y1, y2, n', hy, _, g0, g1, g2⟩ := trod_struct3 Try.underlying42 h2
      simp only [rbCellsU8, rbCellsI, List.drop_zero, List.drop_succ_cons, List.take_succ_cons, List.take_zero] at g0 g1 g2
      obtain ⟨K, e0, _, w0⟩ := DataW.trod_int Try.underlying5 g0
      obtain ⟨O, e1, _, w1⟩ := DataW.trod_int Try.underlying5 g1
      obtain ⟨V, e2, _, w2⟩ := DataW.trod_int Try.underlying5 g2
      simp only [List.cons.injEq, and_true] at e0 e1 e2
      subst e0 e1 e2
      have b0 := bounds_u8 w0
      have b1 := bounds_u8 w1
      have b2 := bounds_u8 w2
      have hc0 := hc 0 (by decide)
      have hc1 := hc 1 (by decide)
      have hc2 := hc 2 (by decide)
      have hblk := World.block_lt_of_cell? _ _ hc0
      rw [add_block] at hblk
      refine ⟨(⟨K.toNat, O.toNat, V.toNat⟩ : Dr), ⟨by show K.toNat < 256; omega, by show O.toNat < 256; omega, by show V.toNat < 256; omega⟩, by simpa only [add_block] using hblk, ?_⟩
      intro j v hv
      rcases j with _ | _ | _ | j
      · simp only [dc, List.getElem?_cons_zero, Option.some.injEq] at hv
        subst hv
        simpa [show ((K.toNat : Nat) : Int) = K by omega, show ((O.toNat : Nat) : Int) = O by omega, show ((V.toNat : Nat) : Int) = V by omega] using hc0
      · simp only [dc, List.getElem?_cons_succ, List.getElem?_cons_zero, Option.some.injEq] at hv
        subst hv
        simpa [show ((K.toNat : Nat) : Int) = K by omega, show ((O.toNat : Nat) : Int) = O by omega, show ((V.toNat : Nat) : Int) = V by omega] using hc1
      · simp only [dc, List.getElem?_cons_succ, List.getElem?_cons_zero, Option.some.injEq] at hv
        subst hv
        simpa [show ((K.toNat : Nat) : Int) = K by omega, show ((O.toNat : Nat) : Int) = O by omega, show ((V.toNat : Nat) : Int) = V by omega] using hc2
      · simp [dc] at hv
    obtain ⟨l, hll, hp⟩ := list_of len key
    refine ⟨l, hll, by unfold maxLen at hm; omega, fun x hx => ?_, fun j x hj => ⟨a, rfl, (hp j x hj).2.1, (hp j x hj).2.2⟩⟩
    obtain ⟨j, hj, he⟩ := List.mem_iff_getElem.1 hx
    exact (hp j x (by rw [List.getElem?_eq_getElem hj, he])).1
theorem inputs_of (H : Type) (enc : TypeId × Value → H) (W : World) (a0 : Option Addr) (len cap : Nat) (d : DataW H) (ps : List MemPlace) (h : DataW.Trod enc Try.prog W 0 (fun _ => true) true 22 (.slice a0 len cap) d ps) : ∃ l : List In, l.length = len ∧ Rd W W.heap.size a0 l := by
  obtain ⟨fuel, hf⟩ := h
  rcases open_slice Try.underlying22 hf with ⟨hcs, hx⟩ | ⟨a, len', cap', m, n, D, Pl, hcs, _, hl, hm, hmm, hx, hall⟩
  · simp [Value.cells] at hcs
    obtain ⟨rfl, rfl, rfl⟩ := hcs
    exact ⟨[], rfl, by simp, by simp, fun j x hj => by simp at hj⟩
  · simp [Value.cells] at hcs
    obtain ⟨rfl, rfl, rfl⟩ := hcs
    simp only [if_true] at hmm
    subst hmm
    have key : ∀ i, i < len → ∃ x : In, x.ok ∧ a.block < W.heap.size ∧ CellsA W (a.add (i * 3)) (ic x) := fun i hi => by
      obtain ⟨cs', h1, h2⟩ := hall i (by omega)
      rw [rbCellsN] at h1
      obtain ⟨hb, hlen, hc⟩ := World.cells?_some h1
      obtain ⟨c0, c1, c2, rfl⟩ := list3 hlen
      obtain ⟨y0, y1, y2, n', hy, _, g0, g1, g2⟩ := trod_struct3 Try.underlying25 h2
      simp only [rbCellsU8, rbCellsI, List.drop_zero, List.drop_succ_cons, List.take_succ_cons, List.take_zero] at g0 g1 g2
      obtain ⟨K, e0, _, w0⟩ := DataW.trod_int Try.underlying3 g0
      obtain ⟨O, e1, _, w1⟩ := DataW.trod_int Try.underlying3 g1
      obtain ⟨V, e2, _, w2⟩ := DataW.trod_int Try.underlying5 g2
      simp only [List.cons.injEq, and_true] at e0 e1 e2
      subst e0 e1 e2
      have b0 := bounds_i64 w0
      have b1 := bounds_i64 w1
      have b2 := bounds_u8 w2
      have hc0 := hc 0 (by decide)
      have hc1 := hc 1 (by decide)
      have hc2 := hc 2 (by decide)
      have hblk := World.block_lt_of_cell? _ _ hc0
      rw [add_block] at hblk
      refine ⟨(⟨K, O, V.toNat⟩ : In), ⟨b0.1, b0.2, b1.1, b1.2, by show V.toNat < 256; omega⟩, by simpa only [add_block] using hblk, ?_⟩
      intro j v hv
      rcases j with _ | _ | _ | j
      · simp only [ic, List.getElem?_cons_zero, Option.some.injEq] at hv
        subst hv
        simpa [show ((V.toNat : Nat) : Int) = V by omega] using hc0
      · simp only [ic, List.getElem?_cons_succ, List.getElem?_cons_zero, Option.some.injEq] at hv
        subst hv
        simpa [show ((V.toNat : Nat) : Int) = V by omega] using hc1
      · simp only [ic, List.getElem?_cons_succ, List.getElem?_cons_zero, Option.some.injEq] at hv
        subst hv
        simpa [show ((V.toNat : Nat) : Int) = V by omega] using hc2
      · simp [ic] at hv
    obtain ⟨l, hll, hp⟩ := list_of len key
    refine ⟨l, hll, by unfold maxLen at hm; omega, fun x hx => ?_, fun j x hj => ⟨a, rfl, (hp j x hj).2.1, (hp j x hj).2.2⟩⟩
    obtain ⟨j, hj, he⟩ := List.mem_iff_getElem.1 hx
    exact (hp j x (by rw [List.getElem?_eq_getElem hj, he])).1
theorem draft_of (H : Type) (enc : TypeId × Value → H) (W : World) (v : Value) (d : DataW H) (ps : List MemPlace) (b0 : Nat) (hv : Value.okWide Try.prog W .any b0 42 v) (h : DataW.Trod enc Try.prog W 0 (fun _ => true) true 42 v d ps) :
    ∃ x : Dr, v = .agg #[.int .u8 (x.f : Int), .int .u8 (x.k : Int), .int .u8 (x.v : Int)] ∧ x.ok := by
  obtain ⟨cs, rfl, hsz⟩ := okWide_struct Try.underlying42 hv
  clear hv
  obtain ⟨fuel, hf⟩ := h
  obtain ⟨ls, rfl⟩ : ∃ l : List Value, cs = l.toArray := ⟨cs.toList, by simp⟩
  rw [rbCellsD] at hsz
  obtain ⟨c0, c1, c2, rfl⟩ := list3 (by simpa using hsz)
  obtain ⟨y0, y1, y2, n', hy, _, g0, g1, g2⟩ := trod_struct3 Try.underlying42 hf
  simp only [Value.cells, rbCellsU8, rbCellsI, List.drop_zero, List.drop_succ_cons, List.take_succ_cons, List.take_zero] at g0 g1 g2
  obtain ⟨K, e0, _, w0⟩ := DataW.trod_int Try.underlying5 g0
  obtain ⟨O, e1, _, w1⟩ := DataW.trod_int Try.underlying5 g1
  obtain ⟨V, e2, _, w2⟩ := DataW.trod_int Try.underlying5 g2
  simp only [List.cons.injEq, and_true] at e0 e1 e2
  subst e0 e1 e2
  have b0 := bounds_u8 w0
  have b1 := bounds_u8 w1
  have b2 := bounds_u8 w2
  skip
  exact ⟨(⟨K.toNat, O.toNat, V.toNat⟩ : Dr), by rw [show ((K.toNat : Nat) : Int) = K by omega, show ((O.toNat : Nat) : Int) = O by omega, show ((V.toNat : Nat) : Int) = V by omega], ⟨by show K.toNat < 256; omega, by show O.toNat < 256; omega, by show V.toNat < 256; omega⟩⟩
theorem input_of (H : Type) (enc : TypeId × Value → H) (W : World) (v : Value) (d : DataW H) (ps : List MemPlace) (b0 : Nat) (hv : Value.okWide Try.prog W .any b0 25 v) (h : DataW.Trod enc Try.prog W 0 (fun _ => true) true 25 v d ps) :
    ∃ x : In, v = iv x ∧ x.ok := by
  obtain ⟨cs, rfl, hsz⟩ := okWide_struct Try.underlying25 hv
  clear hv
  obtain ⟨fuel, hf⟩ := h
  obtain ⟨ls, rfl⟩ : ∃ l : List Value, cs = l.toArray := ⟨cs.toList, by simp⟩
  rw [rbCellsN] at hsz
  obtain ⟨c0, c1, c2, rfl⟩ := list3 (by simpa using hsz)
  obtain ⟨y0, y1, y2, n', hy, _, g0, g1, g2⟩ := trod_struct3 Try.underlying25 hf
  simp only [Value.cells, rbCellsU8, rbCellsI, List.drop_zero, List.drop_succ_cons, List.take_succ_cons, List.take_zero] at g0 g1 g2
  obtain ⟨K, e0, _, w0⟩ := DataW.trod_int Try.underlying3 g0
  obtain ⟨O, e1, _, w1⟩ := DataW.trod_int Try.underlying3 g1
  obtain ⟨V, e2, _, w2⟩ := DataW.trod_int Try.underlying5 g2
  simp only [List.cons.injEq, and_true] at e0 e1 e2
  subst e0 e1 e2
  have b0 := bounds_i64 w0
  have b1 := bounds_i64 w1
  have b2 := bounds_u8 w2
  skip
  exact ⟨(⟨K, O, V.toNat⟩ : In), by unfold iv; rw [show ((V.toNat : Nat) : Int) = V by omega], ⟨b0.1, b0.2, b1.1, b1.2, by show V.toNat < 256; omega⟩⟩
theorem inputs_cap (H : Type) (enc : TypeId × Value → H) (W : World) (a0 : Option Addr) (len cap : Nat) (d : DataW H) (ps : List MemPlace) (h : DataW.Trod enc Try.prog W 0 (fun _ => true) true 22 (.slice a0 len cap) d ps) : len ≤ cap := by
  obtain ⟨fuel, hf⟩ := h
  rcases open_slice Try.underlying22 hf with ⟨hcs, hx⟩ | ⟨a, len', cap', m, n, D, Pl, hcs, _, hl, hm, hmm, hx, hall⟩
  · simp [Value.cells] at hcs
    obtain ⟨rfl, rfl, rfl⟩ := hcs
    omega
  · simp [Value.cells] at hcs
    obtain ⟨rfl, rfl, rfl⟩ := hcs
    omega
end Go.Proofs.Ytimlhckihkjifaa
