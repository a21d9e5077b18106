/-
  What the rows of the irq laws share: controllers, priorities, asks, bytes, acts, as a caller hands them in. No condition of its own.
-/
import Derived.Test.YtcdomelfmkbloaaRows
import Derived.Test.YtcdomelfmkbloaaKeepM
import Derived.ProofKit
import Derived.OpenShut
import Derived.Deep.Slices
import Derived.Deep.Strs
import Derived.Lib.SmallJoins
namespace Go.Proofs.Ytcdomelfmkbloaa
open Go.ChangeShapes Go.WideShapes Go.ChangeAt Go.RowKit Go.Deep
set_option linter.unusedVariables false
theorem rbCellsU8 : Try.prog.cellsOf 5 = 1 := by kernel_rfl
theorem rbCellsInt : Try.prog.cellsOf 3 = 1 := by kernel_rfl
theorem rbCellsP : Try.prog.cellsOf 24 = 8 := by kernel_rfl
theorem rbCellsR : Try.prog.cellsOf 30 = 8 := by kernel_rfl
theorem rbCellsC : Try.prog.cellsOf 23 = 2 := by kernel_rfl
theorem laid_out : laidOutB Try.prog = true := by kernel_rfl
theorem list2 {l : List Value} (h : l.length = 2) : ∃ a b, l = [a, b] := by
  match l, h with
  | [a, b], _ => exact ⟨a, b, rfl⟩
theorem list3 {l : List Value} (h : l.length = 3) : ∃ a b c, l = [a, b, c] := by
  match l, h with
  | [a, b, c], _ => exact ⟨a, b, c, rfl⟩
theorem okWide_array {P : Program} {w : World} {r : Reach} {base : Nat} {t e : TypeId} {n : Nat} {v : Value} (ht : P.underlying t = some (.array n e)) (h : Value.okWide P w r base t v) : ∃ cs, v = .agg cs ∧ cs.size = P.cellsOf t := by
  simp only [Value.okWide, ht] at h
  obtain ⟨cs, h1, h2, _⟩ := h
  exact ⟨cs, h1, h2⟩
theorem drop_one {ls : List Value} {i : Nat} {c : Value} (hc : ls[i]? = some c) : (List.drop (i * 1) ls).take 1 = [c] := by
  rw [Nat.mul_one, List.take_one, List.head?_drop, hc]
  rfl
theorem prios_of (H : Type) (enc : TypeId × Value → H) (W : World) (v : Value) (d : DataW H) (ps : List MemPlace) (b0 : Nat) (hv : Value.okWide Try.prog W .any b0 24 v) (h : DataW.Trod enc Try.prog W 0 (fun _ => true) true 24 v d ps) :
    ∃ l : List Int, v = pv l ∧ PsOk l := by
  obtain ⟨cs, rfl, hsz⟩ := okWide_array Try.underlying24 hv
  clear hv
  obtain ⟨fuel, hf⟩ := h
  obtain ⟨ls, rfl⟩ : ∃ l : List Value, cs = l.toArray := ⟨cs.toList, by simp⟩
  rw [rbCellsP] at hsz
  have h8 : ls.length = 8 := by simpa using hsz
  obtain ⟨xs, m, -, -, -, hxl, hel⟩ := DataW.trod_array Try.underlying24 hf
  have one : ∀ c ∈ ls, ∃ x : Int, c = .int .i64 x ∧ -9223372036854775808 ≤ x ∧ x ≤ 9223372036854775807 := fun c hc => by
    obtain ⟨i, hi, rfl⟩ := List.mem_iff_getElem.1 hc
    have h := hel i (by omega)
    rw [rbCellsInt, List.getElem?_eq_getElem (by omega)] at h
    obtain ⟨x, e, -, wx⟩ := DataW.trod_int Try.underlying3 h
    have e2 : [ls[i]] = [Value.int .i64 x] := (drop_one (List.getElem?_eq_getElem hi)).symm.trans e
    injection e2 with e3
    have hb := bounds_i64 wx
    exact ⟨x, e3, hb.1, hb.2⟩
  refine ⟨ls.map fun c => match c with | .int _ x => x | _ => 0, ?_, ⟨by simpa using h8, fun x hx => ?_, fun x hx => ?_⟩⟩
  · unfold pv psc
    rw [List.map_map]
    congr 1
    refine congrArg List.toArray ?_
    refine Eq.trans (List.map_id ls).symm (List.map_congr_left fun c hc => ?_)
    obtain ⟨x, rfl, -, -⟩ := one c hc
    rfl
  · obtain ⟨c, hc, rfl⟩ := List.mem_map.1 hx
    obtain ⟨x, rfl, h1, -⟩ := one c hc
    exact h1
  · obtain ⟨c, hc, rfl⟩ := List.mem_map.1 hx
    obtain ⟨x, rfl, -, h1⟩ := one c hc
    exact h1
theorem raw_of (H : Type) (enc : TypeId × Value → H) (W : World) (v : Value) (d : DataW H) (ps : List MemPlace) (b0 : Nat) (hv : Value.okWide Try.prog W .any b0 30 v) (h : DataW.Trod enc Try.prog W 0 (fun _ => true) true 30 v d ps) :
    ∃ l : List Nat, v = rawv l ∧ RawOk l := by
  obtain ⟨cs, rfl, hsz⟩ := okWide_array Try.underlying30 hv
  clear hv
  obtain ⟨fuel, hf⟩ := h
  obtain ⟨ls, rfl⟩ : ∃ l : List Value, cs = l.toArray := ⟨cs.toList, by simp⟩
  rw [rbCellsR] at hsz
  have h8 : ls.length = 8 := by simpa using hsz
  obtain ⟨xs, m, -, -, -, hxl, hel⟩ := DataW.trod_array Try.underlying30 hf
  have one : ∀ c ∈ ls, ∃ x : Nat, c = .int .u8 (x : Int) ∧ x < 256 := fun c hc => by
    obtain ⟨i, hi, rfl⟩ := List.mem_iff_getElem.1 hc
    have h := hel i (by omega)
    rw [rbCellsU8, List.getElem?_eq_getElem (by omega)] at h
    obtain ⟨x, e, -, wx⟩ := DataW.trod_int Try.underlying5 h
    have e2 : [ls[i]] = [Value.int .u8 x] := (drop_one (List.getElem?_eq_getElem hi)).symm.trans e
    injection e2 with e3
    have hb := bounds_u8 wx
    exact ⟨x.toNat, by rw [e3]; congr 1; omega, by omega⟩
  refine ⟨ls.map fun c => match c with | .int _ x => x.toNat | _ => 0, ?_, ⟨by simpa using h8, fun x hx => ?_⟩⟩
  · unfold rawv rawc
    rw [List.map_map]
    congr 1
    refine congrArg List.toArray ?_
    refine Eq.trans (List.map_id ls).symm (List.map_congr_left fun c hc => ?_)
    obtain ⟨x, rfl, -⟩ := one c hc
    simp
  · obtain ⟨c, hc, rfl⟩ := List.mem_map.1 hx
    obtain ⟨x, rfl, h1⟩ := one c hc
    simpa using h1
theorem irq_of (H : Type) (enc : TypeId × Value → H) (W : World) (v : Value) (d : DataW H) (ps : List MemPlace) (b0 : Nat) (hv : Value.okWide Try.prog W .any b0 23 v) (h : DataW.Trod enc Try.prog W 0 (fun _ => true) true 23 v d ps) :
    ∃ c : Ic, v = cv c ∧ c.ok := by
  obtain ⟨cs, rfl, hsz⟩ := okWide_struct Try.underlying23 hv
  clear hv
  obtain ⟨fuel, hf⟩ := h
  obtain ⟨ls, rfl⟩ : ∃ l : List Value, cs = l.toArray := ⟨cs.toList, by simp⟩
  rw [rbCellsC] at hsz
  obtain ⟨c0, c1, rfl⟩ := list2 (by simpa using hsz)
  obtain ⟨y0, y1, n', hy, _, g0, g1⟩ := trod_struct2 Try.underlying23 hf
  simp only [Value.cells, rbCellsU8, List.drop_zero, List.drop_succ_cons, List.take_succ_cons, List.take_zero] at g0 g1
  obtain ⟨K, e0, _, w0⟩ := DataW.trod_int Try.underlying5 g0
  obtain ⟨O, e1, _, w1⟩ := DataW.trod_int Try.underlying5 g1
  simp only [List.cons.injEq, and_true] at e0 e1
  subst e0 e1
  have k0 := bounds_u8 w0
  have k1 := bounds_u8 w1
  exact ⟨⟨K.toNat, O.toNat⟩, by unfold cv; rw [show ((K.toNat : Nat) : Int) = K by omega, show ((O.toNat : Nat) : Int) = O by omega], ⟨by show K.toNat < 256; omega, by show O.toNat < 256; omega⟩⟩
theorem rbCellsA : Try.prog.cellsOf 26 = 3 := by kernel_rfl
theorem ask_of (H : Type) (enc : TypeId × Value → H) (W : World) (v : Value) (d : DataW H) (ps : List MemPlace) (b0 : Nat) (hv : Value.okWide Try.prog W .any b0 26 v) (h : DataW.Trod enc Try.prog W 0 (fun _ => true) true 26 v d ps) :
    ∃ (lv cr : Int) (mk : Nat), v = av lv cr mk ∧ -9223372036854775808 ≤ lv ∧ lv ≤ 9223372036854775807 ∧ -9223372036854775808 ≤ cr ∧ cr ≤ 9223372036854775807 ∧ mk < 256 := by
  obtain ⟨cs, rfl, hsz⟩ := okWide_struct Try.underlying26 hv
  clear hv
  obtain ⟨fuel, hf⟩ := h
  obtain ⟨ls, rfl⟩ : ∃ l : List Value, cs = l.toArray := ⟨cs.toList, by simp⟩
  rw [rbCellsA] at hsz
  obtain ⟨c0, c1, c2, rfl⟩ := list3 (by simpa using hsz)
  obtain ⟨y0, y1, y2, n', hy, _, g0, g1, g2⟩ := trod_struct3 Try.underlying26 hf
  simp only [Value.cells, rbCellsU8, rbCellsInt, List.drop_zero, List.drop_succ_cons, List.take_succ_cons, List.take_zero] at g0 g1 g2
  obtain ⟨K, e0, _, w0⟩ := DataW.trod_int Try.underlying3 g0
  obtain ⟨O, e1, _, w1⟩ := DataW.trod_int Try.underlying3 g1
  obtain ⟨V, e2, _, w2⟩ := DataW.trod_int Try.underlying5 g2
  simp only [List.cons.injEq, and_true] at e0 e1 e2
  subst e0 e1 e2
  have k0 := bounds_i64 w0
  have k1 := bounds_i64 w1
  have k2 := bounds_u8 w2
  exact ⟨K, O, V.toNat, by unfold av; rw [show ((V.toNat : Nat) : Int) = V by omega], k0.1, k0.2, k1.1, k1.2, by omega⟩
theorem rbCellsX : Try.prog.cellsOf 33 = 3 := by kernel_rfl
theorem acts_of (H : Type) (enc : TypeId × Value → H) (W : World) (a0 : Option Addr) (len cap : Nat) (d : DataW H) (ps : List MemPlace) (h : DataW.Trod enc Try.prog W 0 (fun _ => true) true 31 (.slice a0 len cap) d ps) : len ≤ 9223372036854775807 ∧ Acts3 W a0 len := by
  obtain ⟨fuel, hf⟩ := h
  rcases open_slice Try.underlying31 hf with ⟨hcs, hx⟩ | ⟨a, len', cap', m, n, D, Pl, hcs, _, hl, hm, hmm, hx, hall⟩
  · simp [Value.cells] at hcs
    obtain ⟨rfl, rfl, rfl⟩ := hcs
    exact ⟨by omega, fun j hj => by omega⟩
  · simp [Value.cells] at hcs
    obtain ⟨rfl, rfl, rfl⟩ := hcs
    simp only [if_true] at hmm
    subst hmm
    refine ⟨by unfold maxLen at hm; omega, fun i hi => ?_⟩
    obtain ⟨cs', h1, h2⟩ := hall i (by omega)
    rw [rbCellsX] at h1
    obtain ⟨hb, hlen, hc⟩ := World.cells?_some h1
    obtain ⟨c0, c1, c2, rfl⟩ := list3 hlen
    obtain ⟨y0, y1, y2, n', hy, _, g0, g1, g2⟩ := trod_struct3 Try.underlying33 h2
    simp only [rbCellsU8, List.drop_zero, List.drop_succ_cons, List.take_succ_cons, List.take_zero] at g0 g1 g2
    obtain ⟨K, e0, _, w0⟩ := DataW.trod_int Try.underlying5 g0
    obtain ⟨O, e1, _, w1⟩ := DataW.trod_int Try.underlying5 g1
    obtain ⟨V, e2, _, w2⟩ := DataW.trod_int Try.underlying5 g2
    simp only [List.cons.injEq, and_true] at e0 e1 e2
    subst e0 e1 e2
    have b0 := bounds_u8 w0
    have b1 := bounds_u8 w1
    have b2 := bounds_u8 w2
    have hc0 : W.cell? (a.add (i * 3)) = some (.int .u8 K) := hc 0 (by decide)
    have hc1 : W.cell? ((a.add (i * 3)).add 1) = some (.int .u8 O) := hc 1 (by decide)
    have hc2 : W.cell? ((a.add (i * 3)).add 2) = some (.int .u8 V) := hc 2 (by decide)
    refine ⟨a, rfl, ?_, K.toNat, O.toNat, V.toNat, by omega, by omega, by omega, by rw [show ((K.toNat : Nat) : Int) = K by omega]; exact hc0, by rw [show ((O.toNat : Nat) : Int) = O by omega]; exact hc1, by rw [show ((V.toNat : Nat) : Int) = V by omega]; exact hc2⟩
    have := World.block_lt_of_cell? _ _ hc0
    simpa only [add_block] using this
end Go.Proofs.Ytcdomelfmkbloaa
