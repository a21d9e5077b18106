/-
  What the rows of the timer laws share: three numbers of 16 bits, as a caller hands them in. No condition of its own.
-/
import Derived.Test.YtgibindoblhkeaaRows
import Derived.Test.YtgibindoblhkeaaT
import Derived.ProofKit
import Derived.OpenShut
import Derived.Deep.Slices
import Derived.Lib.SmallJoins
namespace Go.Proofs.Ytgibindoblhkeaa
open Go.ChangeShapes Go.WideShapes Go.ChangeAt Go.RowKit Go.Deep
set_option linter.unusedVariables false
theorem rbCells16 : Try.prog.cellsOf 22 = 1 := by kernel_rfl
theorem rbCells3 : Try.prog.cellsOf 46 = 3 := by kernel_rfl
theorem laid_out : laidOutB Try.prog = true := by kernel_rfl
theorem list3 {l : List Value} (h : l.length = 3) : ∃ a b c, l = [a, b, c] := by
  match l, h with
  | [a, b, c], _ => exact ⟨a, b, c, rfl⟩
theorem okWide_array {P : Program} {w : World} {r : Reach} {base : Nat} {t e : TypeId} {n : Nat} {v : Value} (ht : P.underlying t = some (.array n e)) (h : Value.okWide P w r base t v) : ∃ cs, v = .agg cs ∧ cs.size = P.cellsOf t := by
  simp only [Value.okWide, ht] at h
  obtain ⟨cs, h1, h2, _⟩ := h
  exact ⟨cs, h1, h2⟩
theorem three_of (H : Type) (enc : TypeId × Value → H) (W : World) (v : Value) (d : DataW H) (ps : List MemPlace) (b0 : Nat) (hv : Value.okWide Try.prog W .any b0 46 v) (h : DataW.Trod enc Try.prog W 0 (fun _ => true) true 46 v d ps) :
    ∃ t : Tm, v = tv t ∧ t.ok := by
  obtain ⟨cs, rfl, hsz⟩ := okWide_array Try.underlying46 hv
  clear hv
  obtain ⟨fuel, hf⟩ := h
  obtain ⟨ls, rfl⟩ : ∃ l : List Value, cs = l.toArray := ⟨cs.toList, by simp⟩
  rw [rbCells3] at hsz
  have h3 : ls.length = 3 := by simpa using hsz
  obtain ⟨c0, c1, c2, rfl⟩ := list3 h3
  obtain ⟨xs, m, -, -, -, hxl, hel⟩ := DataW.trod_array Try.underlying46 hf
  have one : ∀ (i : Nat) (c : Value), i < 3 → [c0, c1, c2][i]? = some c → ∃ x : Nat, c = .int .u16 (x : Int) ∧ x < 65536 := fun i c hi hc => by
    have h := hel i hi
    rw [rbCells16, List.getElem?_eq_getElem (by omega)] at h
    obtain ⟨x, e, -, wx⟩ := DataW.trod_int Try.underlying22 h
    have h8 : (List.drop (i * 1) [c0, c1, c2]).take 1 = [c] := by
      rw [Nat.mul_one, List.take_one, List.head?_drop, hc]
      rfl
    have e2 : [c] = [Value.int .u16 x] := h8.symm.trans e
    injection e2 with e3
    have hb := bounds_u16 wx
    exact ⟨x.toNat, by rw [e3]; congr 1; omega, by omega⟩
  obtain ⟨x0, rfl, k0⟩ := one 0 _ (by omega) rfl
  obtain ⟨x1, rfl, k1⟩ := one 1 _ (by omega) rfl
  obtain ⟨x2, rfl, k2⟩ := one 2 _ (by omega) rfl
  exact ⟨⟨x0, x1, x2⟩, rfl, ⟨k0, k1, k2⟩⟩
end Go.Proofs.Ytgibindoblhkeaa
