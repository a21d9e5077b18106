/-
  FoldMeans' arguments, opened: pieces, and numbers. No walk.
-/
import Derived.Test.YthmphmndpfkbcaaStack2
import Derived.Test.YthmphmndpfkbcaaRows
import Derived.ProofKit
import Derived.OpenShut
import Derived.Deep.Slices
import Derived.Lib.SmallJoins
namespace Go.Proofs.Ythmphmndpfkbcaa
open Go.RowKit
set_option linter.unusedVariables false
/-- A slice of numbers of 32 bits that came in. -/
def IntsArg (w : World) (v : Value) : Prop := (∃ p c, v = .slice p 0 c ∧ c ≤ maxLen ∧ (p = none → c = 0)) ∨ ∃ (a : Addr) (c : Nat) (xs : List Int), v = .slice (some a) xs.length c ∧ xs.length ≤ c ∧ c ≤ maxLen ∧ (∀ x ∈ xs, -2147483648 ≤ x ∧ x ≤ 2147483647) ∧ a.block < w.heap.size ∧ ∀ (i : Nat) (x : Int), xs[i]? = some x → w.cell? (a.add i) = some (.int .i32 x)
theorem ints_nil (w : World) (p : Option Addr) (c : Nat) : Ints w (.slice p 0 c) [] := ⟨by simp, fun _ h => by simp at h, .inl ⟨rfl, p, c, rfl⟩⟩
theorem ints_cut {w : World} {a : Addr} {c n : Nat} {xs : List Int} (hn : min xs.length 10 = n) (hbd : ∀ x ∈ xs, -2147483648 ≤ x ∧ x ≤ 2147483647) (hb : a.block < w.heap.size) (hc : ∀ (i : Nat) (x : Int), xs[i]? = some x → w.cell? (a.add i) = some (.int .i32 x)) : Ints w (.slice (some a) n c) (xs.take 10) := by
  have hl : (xs.take 10).length = n := by rw [List.length_take, Nat.min_comm]; exact hn
  refine ⟨by rw [List.length_take]; omega, fun x hx => hbd x (List.mem_of_mem_take hx), .inr ⟨a, c, by rw [hl], hb, fun i x hx => hc i x ?_⟩⟩
  rw [List.getElem?_take] at hx
  split at hx
  · exact hx
  · cases hx
/-- What came in, in a world behind it. -/
theorem IntsArg.cuts {w : World} {v : Value} (h : IntsArg w v) : ∃ (a : Option Addr) (n c m : Nat) (xs : List Int), v = .slice a n c ∧ min n 10 = m ∧ (a = none → n = 0 ∧ c = 0) ∧ n ≤ c ∧ c ≤ maxLen ∧ Ints w (.slice a m c) xs := by
  rcases h with ⟨p, c, rfl, hm, hp⟩ | ⟨a, c, xs, rfl, h1, h2, h3, h4, h5⟩
  · exact ⟨p, 0, c, 0, [], rfl, rfl, fun h => ⟨rfl, hp h⟩, by omega, hm, ints_nil w p c⟩
  · exact ⟨some a, xs.length, c, _, xs.take 10, rfl, rfl, (fun h => by cases h), h1, h2, ints_cut rfl h3 h4 h5⟩
end Go.Proofs.Ythmphmndpfkbcaa
namespace Go.Proofs.Ythmphmndpfkbcaa.foldMeans
open Go.ChangeShapes Go.WideShapes Go.ChangeAt Go.RowKit Go.Deep
theorem cells4 : Try.prog.cellsOf 58 = 4 := by kernel_rfl
theorem cells8 : Try.prog.cellsOf 5 = 1 := by kernel_rfl
theorem cells64 : Try.prog.cellsOf 2 = 1 := by kernel_rfl
theorem cells32 : Try.prog.cellsOf 21 = 1 := by kernel_rfl
theorem list4 {l : List Value} (h : l.length = 4) : ∃ a b c d, l = [a, b, c, d] := by
  match l, h with
  | [a, b, c, d], _ => exact ⟨a, b, c, d, rfl⟩
theorem pieces_of (H : Type) (enc : TypeId × Value → H) (W : World) (a0 : Option Addr) (len cap : Nat) (d : DataW H) (ps : List MemPlace) (h : DataW.Trod enc Try.prog W 0 (fun _ => true) true 22 (.slice a0 len cap) d ps) : Go.Proofs.Ythmphmndpfkbcaa.Pieces W (.slice a0 len cap) len := by
  obtain ⟨fuel, hf⟩ := h
  rcases open_slice Try.underlying22 hf with ⟨hcs, hx⟩ | ⟨a, len', cap', m, n, D, Pl, hcs, _, hl, hm, hmm, hx, hall⟩
  · simp [Value.cells] at hcs
    obtain ⟨rfl, rfl, rfl⟩ := hcs
    exact .inl ⟨rfl, none, 0, rfl⟩
  · simp [Value.cells] at hcs
    obtain ⟨rfl, rfl, rfl⟩ := hcs
    simp only [if_true] at hmm
    subst hmm
    by_cases h0 : len = 0
    · subst h0
      exact .inl ⟨rfl, _, _, rfl⟩
    have hcell : ∀ i, i < len → ∃ K O T N : Int, (0 ≤ K ∧ K ≤ 255) ∧ (0 ≤ O ∧ O ≤ 255) ∧ (0 ≤ T ∧ T ≤ 255) ∧ (-9223372036854775808 ≤ N ∧ N ≤ 9223372036854775807) ∧ Go.Proofs.Ythmphmndpfkbcaa.CellsA W (a.add (i * 4)) (Go.Proofs.Ythmphmndpfkbcaa.pcL K O T N) := fun i hi => by
      obtain ⟨cs', h1, h2⟩ := hall i (by omega)
      rw [cells4] at h1
      obtain ⟨hb, hlen, hc⟩ := World.cells?_some h1
      obtain ⟨c0, c1, c2, c3, rfl⟩ := list4 hlen
      obtain ⟨y0, y1, y2, y3, n', hy, _, g0, g1, g2, g3⟩ := Go.Joins.trod_struct4 Try.underlying58 h2
      simp only [cells8, cells64, List.drop_zero, List.drop_succ_cons, List.take_succ_cons, List.take_zero] at g0 g1 g2 g3
      obtain ⟨K, e0, _, w0⟩ := DataW.trod_int Try.underlying5 g0
      obtain ⟨O, e1, _, w1⟩ := DataW.trod_int Try.underlying5 g1
      obtain ⟨T, e2, _, w2⟩ := DataW.trod_int Try.underlying5 g2
      obtain ⟨N, e3, _, w3⟩ := DataW.trod_int Try.underlying2 g3
      simp only [List.cons.injEq, and_true] at e0 e1 e2 e3
      subst e0 e1 e2 e3
      have b0 := bounds_u8 w0
      have b1 := bounds_u8 w1
      have b2 := bounds_u8 w2
      have b3 := bounds_i64 w3
      exact ⟨K, O, T, N, b0, b1, b2, b3, fun j v hv => (hc j (List.getElem?_eq_some_iff.1 hv).1).trans hv⟩
    refine .inr ⟨a, _, rfl, by unfold maxLen at hm; omega, ?_, hcell⟩
    obtain ⟨K, O, T, N, _, _, _, _, hc⟩ := hcell 0 (by omega)
    have := World.block_lt_of_cell? _ _ (hc 0 _ rfl)
    simpa only [Go.Proofs.Ythmphmndpfkbcaa.add_block] using this
theorem ints_of (H : Type) (enc : TypeId × Value → H) (W : World) (a0 : Option Addr) (len cap : Nat) (d : DataW H) (ps : List MemPlace) (h : DataW.Trod enc Try.prog W 0 (fun _ => true) true 23 (.slice a0 len cap) d ps) : Go.Proofs.Ythmphmndpfkbcaa.IntsArg W (.slice a0 len cap) := by
  obtain ⟨fuel, hf⟩ := h
  rcases open_ints Try.underlying23 Try.underlying21 cells32 hf with ⟨hcs, hx⟩ | ⟨a, len', cap', zs, hcs, _, hl, hm, hz, hx, hcell, hwz⟩
  · simp [Value.cells] at hcs
    obtain ⟨rfl, rfl, rfl⟩ := hcs
    exact .inl ⟨none, 0, rfl, by unfold maxLen; omega, fun _ => rfl⟩
  · simp [Value.cells] at hcs
    obtain ⟨rfl, rfl, rfl⟩ := hcs
    simp only [if_true] at hz
    have hll : (zs.take len).length = len := by rw [List.length_take]; omega
    by_cases h0 : cap = 0
    · subst h0
      obtain rfl : len = 0 := by omega
      exact .inl ⟨_, _, rfl, hm, fun _ => rfl⟩
    · have hc0 := hcell 0 (by omega)
      have hb := World.block_lt_of_cell? _ _ hc0
      rw [Go.Proofs.Ythmphmndpfkbcaa.add_block] at hb
      refine .inr ⟨a, cap, zs.take len, by rw [hll], by rw [hll]; exact hl, hm, fun x hx2 => bounds_i32 (hwz x (List.mem_of_mem_take hx2)), hb, fun i x hx2 => ?_⟩
      rw [List.getElem?_take] at hx2
      split at hx2
      · obtain ⟨hi, hxi⟩ := List.getElem?_eq_some_iff.1 hx2
        rw [hcell i hi, List.getD_eq_getElem?_getD, hx2]
        rfl
      · cases hx2
end Go.Proofs.Ythmphmndpfkbcaa.foldMeans
