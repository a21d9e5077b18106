/-
  What the rows of the uart laws share: a uart, and acts, as a caller hands them in. No condition of its own.
-/
import Derived.Test.YtgpgijdciaieaaaRows
import Derived.Test.YtgpgijdciaieaaaOs
import Derived.ProofKit
import Derived.OpenShut
import Derived.Deep.Slices
import Derived.Lib.SmallJoins
namespace Go.Proofs.Ytgpgijdciaieaaa
open Go.ChangeShapes Go.WideShapes Go.ChangeAt Go.RowKit Go.Deep
set_option linter.unusedVariables false
theorem rbCellsB : Try.prog.cellsOf 5 = 1 := by kernel_rfl
theorem rbCellsL : Try.prog.cellsOf 4 = 1 := by kernel_rfl
theorem rbCellsA : Try.prog.cellsOf 22 = 8 := by kernel_rfl
theorem rbCellsQ : Try.prog.cellsOf 24 = 9 := by kernel_rfl
theorem rbCellsU : Try.prog.cellsOf 26 = 21 := by kernel_rfl
theorem rbCellsX : Try.prog.cellsOf 34 = 2 := by kernel_rfl
theorem laid_out : laidOutB Try.prog = true := by kernel_rfl
theorem queue_cells (H : Type) (enc : TypeId × Value → H) (W : World) (fuel : Nat) (cs : List Value) (x : DataW H × List MemPlace) (hl : cs.length = 9) (hf : DataW.trod enc Try.prog W 0 (fun _ => true) true fuel 24 cs = some x) :
    ∃ (n : Int) (bs : List Nat), cs = .int .i64 n :: bvals bs ∧ bs.length = 8 ∧ -9223372036854775808 ≤ n ∧ n ≤ 9223372036854775807 ∧ ∀ y ∈ bs, y < 256 := by
  match cs, hl with
  | [c0, c1, c2, c3, c4, c5, c6, c7, c8], _ =>
    obtain ⟨y0, y1, n, -, -, h0, h1⟩ := trod_struct2 Try.underlying24 hf
    obtain ⟨xs, m, -, -, -, hxl, hel⟩ := DataW.trod_array Try.underlying22 h1
    have ci : Try.prog.cellsOf 3 = 1 := by kernel_rfl
    rw [show (⟨"Len", 3, 0, false, "", "", 0⟩ : Field).type = 3 from rfl, ci] at h0
    obtain ⟨z, e0, -, w0⟩ := DataW.trod_int Try.underlying3 h0
    obtain rfl : c0 = .int .i64 z := by simpa [Value.cells] using e0
    have one : ∀ (i : Nat) (c : Value), i < 8 → [c1, c2, c3, c4, c5, c6, c7, c8][i]? = some c → ∃ x : Nat, c = .int .u8 (x : Int) ∧ x < 256 := fun i c hi hc => by
      have h := hel i hi
      rw [rbCellsB, show (⟨"Bytes", 22, 1, false, "", "", 8⟩ : Field).type = 22 from rfl, rbCellsA, List.getElem?_eq_getElem (by omega)] at h
      obtain ⟨x, e, -, wx⟩ := DataW.trod_int Try.underlying5 h
      have h8 : (List.drop (i * 1) (List.take 8 (List.drop 1 [Value.int .i64 z, c1, c2, c3, c4, c5, c6, c7, c8]))).take 1 = [c] := by
        have h2 : List.take 8 (List.drop 1 [Value.int .i64 z, c1, c2, c3, c4, c5, c6, c7, c8]) = [c1, c2, c3, c4, c5, c6, c7, c8] := rfl
        rw [h2, Nat.mul_one, List.take_one, List.head?_drop, hc]
        rfl
      have e2 : [c] = [Value.int .u8 x] := h8.symm.trans e
      injection e2 with e3
      have hb := bounds_u8 wx
      exact ⟨x.toNat, by rw [e3]; congr 1; omega, by omega⟩
    obtain ⟨x1, rfl, k1⟩ := one 0 _ (by omega) rfl
    obtain ⟨x2, rfl, k2⟩ := one 1 _ (by omega) rfl
    obtain ⟨x3, rfl, k3⟩ := one 2 _ (by omega) rfl
    obtain ⟨x4, rfl, k4⟩ := one 3 _ (by omega) rfl
    obtain ⟨x5, rfl, k5⟩ := one 4 _ (by omega) rfl
    obtain ⟨x6, rfl, k6⟩ := one 5 _ (by omega) rfl
    obtain ⟨x7, rfl, k7⟩ := one 6 _ (by omega) rfl
    obtain ⟨x8, rfl, k8⟩ := one 7 _ (by omega) rfl
    have hz := bounds_i64 w0
    exact ⟨z, [x1, x2, x3, x4, x5, x6, x7, x8], rfl, rfl, hz.1, hz.2, by simp; omega⟩
theorem uart_of (H : Type) (enc : TypeId × Value → H) (W : World) (b0 : Nat) (v : Value) (d : DataW H) (ps : List MemPlace) (hv : Value.okWide Try.prog W .any b0 26 v) (h : DataW.Trod enc Try.prog W 0 (fun _ => true) true 26 v d ps) :
    ∃ (n : Int) (bs : List Nat) (m : Int) (cs : List Nat) (l : Bool) (c k : Nat), v = uv n bs m cs l c k ∧ UIn n bs m cs c k := by
  obtain ⟨cs, rfl, hsz⟩ := okWide_struct Try.underlying26 hv
  clear hv
  obtain ⟨fuel, hf⟩ := h
  obtain ⟨ls, rfl⟩ : ∃ l : List Value, cs = l.toArray := ⟨cs.toList, by simp⟩
  rw [rbCellsU] at hsz
  have h21 : ls.length = 21 := by simpa using hsz
  obtain ⟨xs, n, -, -, -, hlen, hfs⟩ := DataW.trod_struct Try.underlying26 hf
  match xs, hlen with
  | [y0, y1, y2, y3, y4], _ =>
    have g0 : DataW.trod enc Try.prog W 0 (fun _ => true) true n 24 ((ls.drop 0).take (Try.prog.cellsOf 24)) = some y0 := by simpa [Value.cells] using hfs 0 ⟨"Rx", 24, 0, false, "", "", 0⟩ rfl
    have g1 : DataW.trod enc Try.prog W 0 (fun _ => true) true n 24 ((ls.drop 9).take (Try.prog.cellsOf 24)) = some y1 := by simpa [Value.cells] using hfs 1 ⟨"Tx", 24, 9, false, "", "", 16⟩ rfl
    have g2 : DataW.trod enc Try.prog W 0 (fun _ => true) true n 4 ((ls.drop 18).take (Try.prog.cellsOf 4)) = some y2 := by simpa [Value.cells] using hfs 2 ⟨"Lost", 4, 18, false, "", "", 32⟩ rfl
    have g3 : DataW.trod enc Try.prog W 0 (fun _ => true) true n 5 ((ls.drop 19).take (Try.prog.cellsOf 5)) = some y3 := by simpa [Value.cells] using hfs 3 ⟨"Ctl", 5, 19, false, "", "", 33⟩ rfl
    have g4 : DataW.trod enc Try.prog W 0 (fun _ => true) true n 5 ((ls.drop 20).take (Try.prog.cellsOf 5)) = some y4 := by simpa [Value.cells] using hfs 4 ⟨"Count", 5, 20, false, "", "", 34⟩ rfl
    have e0 : ls = ls.take 9 ++ ((ls.drop 9).take 9 ++ ls.drop 18) := by
      have : (ls.drop 9).drop 9 = ls.drop 18 := by rw [List.drop_drop]
      rw [← this, List.take_append_drop, List.take_append_drop]
    rw [rbCellsQ] at g0 g1
    rw [rbCellsL] at g2
    rw [rbCellsB] at g3 g4
    obtain ⟨n1, bs, hq1, hb, r1, r2, r3⟩ := queue_cells _ _ _ _ _ _ (by simp; omega) g0
    obtain ⟨m1, cs, hq2, hc, s1, s2, s3⟩ := queue_cells _ _ _ _ _ _ (by simp; omega) g1
    obtain ⟨a, b, c, ht⟩ : ∃ a b c, ls.drop 18 = [a, b, c] := by
      have h3 : (ls.drop 18).length = 3 := by simp; omega
      match ls.drop 18, h3 with
      | [a, b, c], _ => exact ⟨a, b, c, rfl⟩
    have t19 : ls.drop 19 = [b, c] := by rw [show (19 : Nat) = 18 + 1 from rfl, ← List.drop_drop, ht]; rfl
    have t20 : ls.drop 20 = [c] := by rw [show (20 : Nat) = 18 + 2 from rfl, ← List.drop_drop, ht]; rfl
    rw [ht] at g2
    rw [t19] at g3
    rw [t20] at g4
    obtain ⟨bl, f2, -⟩ := DataW.trod_bool Try.underlying4 g2
    obtain ⟨K, f3, -, w3⟩ := DataW.trod_int Try.underlying5 g3
    obtain ⟨O, f4, -, w4⟩ := DataW.trod_int Try.underlying5 g4
    obtain rfl : a = .bool bl := by simpa using f2
    obtain rfl : b = .int .u8 K := by simpa using f3
    obtain rfl : c = .int .u8 O := by simpa using f4
    have b3 := bounds_u8 w3
    have b4 := bounds_u8 w4
    refine ⟨n1, bs, m1, cs, bl, K.toNat, O.toNat, ?_, ⟨hb, hc, r1, r2, s1, s2, r3, s3, by omega, by omega⟩⟩
    have hk : ((K.toNat : Nat) : Int) = K := by omega
    have ho : ((O.toNat : Nat) : Int) = O := by omega
    rw [List.drop_zero] at hq1
    rw [uv, uc, hk, ho, e0, hq1, hq2, ht]
theorem list2 {l : List Value} (h : l.length = 2) : ∃ a b, l = [a, b] := by
  match l, h with
  | [a, b], _ => exact ⟨a, b, rfl⟩
theorem acts_of (H : Type) (enc : TypeId × Value → H) (W : World) (a0 : Option Addr) (len cap : Nat) (d : DataW H) (ps : List MemPlace) (h : DataW.Trod enc Try.prog W 0 (fun _ => true) true 31 (.slice a0 len cap) d ps) : len ≤ 9223372036854775807 ∧ ActsIn W a0 len := by
  obtain ⟨fuel, hf⟩ := h
  rcases open_slice Try.underlying31 hf with ⟨hcs, hx⟩ | ⟨a, len', cap', m, n, D, Pl, hcs, _, hl, hm, hmm, hx, hall⟩
  · simp [Value.cells] at hcs
    obtain ⟨rfl, rfl, rfl⟩ := hcs
    exact ⟨by omega, fun j hj => by omega⟩
  · simp [Value.cells] at hcs
    obtain ⟨rfl, rfl, rfl⟩ := hcs
    simp only [if_true] at hmm
    subst hmm
    refine ⟨by unfold maxLen at hm; omega, fun i hi => ?_⟩
    obtain ⟨cs', h1, h2⟩ := hall i (by omega)
    rw [rbCellsX] at h1
    obtain ⟨hb, hlen, hc⟩ := World.cells?_some h1
    obtain ⟨c0, c1, rfl⟩ := list2 hlen
    obtain ⟨y0, y1, n', hy, _, g0, g1⟩ := trod_struct2 Try.underlying34 h2
    simp only [rbCellsB, List.drop_zero, List.drop_succ_cons, List.take_succ_cons, List.take_zero] at g0 g1
    obtain ⟨K, e0, _, w0⟩ := DataW.trod_int Try.underlying5 g0
    obtain ⟨O, e1, _, w1⟩ := DataW.trod_int Try.underlying5 g1
    simp only [List.cons.injEq, and_true] at e0 e1
    subst e0 e1
    have b0 := bounds_u8 w0
    have b1 := bounds_u8 w1
    have hk : ((K.toNat : Nat) : Int) = K := by omega
    have ho : ((O.toNat : Nat) : Int) = O := by omega
    have hc0 : W.cell? (a.add (i * 2)) = some (.int .u8 K) := hc 0 (by decide)
    have hc1 : W.cell? ((a.add (i * 2)).add 1) = some (.int .u8 O) := hc 1 (by decide)
    refine ⟨a, rfl, ?_, K.toNat, O.toNat, by omega, by omega, by rw [hk]; exact hc0, by rw [ho]; exact hc1⟩
    have := World.block_lt_of_cell? _ _ hc0
    simpa only [add_block] using this
end Go.Proofs.Ytgpgijdciaieaaa
