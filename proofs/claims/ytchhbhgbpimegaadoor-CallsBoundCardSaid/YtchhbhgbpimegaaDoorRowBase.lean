/-
  What the rows of the calls laws share: the listed table's cells; a world that holds it (the witness); slices of bytes, and of such, as a caller hands them in. No condition of its own.
-/
import Derived.Test.YtchhbhgbpimegaaDoorCards
import Derived.Test.YtchhbhgbpimegaaDoorTie
import Derived.Test.YtchhbhgbpimegaaDoorBuilt
import Derived.ProofKit
import Derived.OpenShut
import Derived.Deep.DeepHandedRow
import Derived.Deep.Matrix
import Derived.Lib.LaidTab
import Derived.LaidHandle
import Derived.RowKitTokens
namespace Go.Proofs.YtchhbhgbpimegaaDoor
open Go.ChangeShapes Go.WideShapes Go.ChangeAt Go.RowKit
theorem rbOwn : ownKnob Tryd.prog.godebug = none := by kernel_rfl
theorem rbTab : Tryd.prog.globalNamed "math/bits.deBruijn64tab" = some 1 := by kernel_rfl
theorem rbTabType : (Tryd.prog.globals[1]?).map (·.type) = some 147 := by kernel_rfl
theorem rbCells64 : Tryd.prog.cellsOf 147 = 64 := by kernel_rfl
theorem rbCellsB : Tryd.prog.cellsOf 5 = 1 := by kernel_rfl
theorem rbCellsR : Tryd.prog.cellsOf 23 = 1 := by kernel_rfl
theorem laid_out : laidOutB Tryd.prog = true := by kernel_rfl
theorem tab_of {rest : List (String × DataW Unit)} {W : World} (h : laidMet Tryd.prog (("math/bits.deBruijn64tab", Rows.laid_math_bits_deBruijn64tab) :: rest) W) : Tab W := by
  have ht : Lib.TabIs Tryd.prog W "math/bits.deBruijn64tab" .u8 (Lib.deBruijn64tab.map fun (x : Nat) => (x : Int)) :=
    Lib.tabIs_of_head rbTab rbTabType Tryd.underlying147 Tryd.underlying5 rbCellsB rbCells64 (rest := rest) h
  have hc : TabAt 1 Lib.deBruijn64tab W := fun j hj => by
    have := ht.cell rbTab j (by simpa using hj)
    rw [this]
    congr 2
    simp [List.getD, hj]
  exact ⟨hc, World.block_lt_of_cell? W _ (hc 0 (by decide))⟩
theorem bytes_of (H : Type) (enc : TypeId × Value → H) (W : World) (a0 : Option Addr) (len cap : Nat) (d : DataW H) (ps : List MemPlace) (h : DataW.Trod enc Tryd.prog W 0 (fun _ => true) true 23 (.slice a0 len cap) d ps) :
    ∃ l : List Nat, BytesIs W (.slice a0 len cap) l := by
  obtain ⟨fuel, hf⟩ := h
  rcases open_ints Tryd.underlying23 Tryd.underlying5 rbCellsB hf with ⟨hcs, hx⟩ | ⟨a, len', cap', zs, hcs, _, hl, hm, hz, hx, hcell, hwz⟩
  · simp [Value.cells] at hcs
    obtain ⟨rfl, rfl, rfl⟩ := hcs
    exact ⟨[], none, 0, rfl, Nat.zero_le _, by simp, fun j x hj => by simp at hj⟩
  · simp [Value.cells] at hcs
    obtain ⟨rfl, rfl, rfl⟩ := hcs
    simp only [if_true] at hz
    have hbz : ∀ z ∈ zs, 0 ≤ z ∧ z < 256 := fun z h => ⟨(bounds_u8 (hwz z h)).1, by have := (bounds_u8 (hwz z h)).2; omega⟩
    have hll : ((zs.take len).map Int.toNat).length = len := by rw [List.length_map, List.length_take]; omega
    refine ⟨(zs.take len).map Int.toNat, some a, cap, by rw [hll], by rw [hll]; omega, fun y hy => ?_, fun j x hj => ⟨a, rfl, ?_⟩⟩
    · simp only [List.mem_map] at hy
      obtain ⟨z, hz1, rfl⟩ := hy
      have := hbz z (List.mem_of_mem_take hz1)
      omega
    · simp only [List.getElem?_map, Option.map_eq_some_iff] at hj
      obtain ⟨z, hz1, rfl⟩ := hj
      have hjl : j < len := by
        have := (List.getElem?_eq_some_iff.1 hz1).1
        rw [List.length_take] at this; omega
      rw [List.getElem?_take_of_lt hjl] at hz1
      obtain ⟨hj2, hz2⟩ := List.getElem?_eq_some_iff.1 hz1
      have hz3 := hbz z (by rw [← hz2]; exact List.getElem_mem hj2)
      rw [hcell j hj2]
      congr 2
      rw [List.getD_eq_getElem?_getD, List.getElem?_eq_getElem hj2, hz2]
      simp only [Option.getD_some]
      omega
theorem rows_of (H : Type) (enc : TypeId × Value → H) (W : World) (a0 : Option Addr) (len cap : Nat) (d : DataW H) (ps : List MemPlace) (h : DataW.Trod enc Tryd.prog W 0 (fun _ => true) true 22 (.slice a0 len cap) d ps) :
    ∃ R : Nat → List Nat, RawIs W (.slice a0 len cap) len R := by
  obtain ⟨fuel, hf⟩ := h
  rcases Deep.open_int_rows Tryd.underlying22 Tryd.underlying23 Tryd.underlying5 rbCellsR rbCellsB hf with ⟨hcs, hx⟩ | ⟨a, len', cap', A, L, C, Z, hcs, _, hl, hm, hx, hrow⟩
  · simp [Value.cells] at hcs
    obtain ⟨rfl, rfl, rfl⟩ := hcs
    exact ⟨fun _ => [], none, 0, rfl, Nat.zero_le _, fun f hf => absurd hf (Nat.not_lt_zero _)⟩
  · simp [Value.cells] at hcs
    obtain ⟨rfl, rfl, rfl⟩ := hcs
    refine ⟨fun r => ((Z r).take (L r)).map Int.toNat, some a, cap, rfl, by omega, fun f hf => ?_⟩
    obtain ⟨hcell, hLC, hCm, hZ, hwz, hnone, hsome⟩ := hrow f (by omega)
    have hll : (((Z f).take (L f)).map Int.toNat).length = L f := by rw [List.length_map, List.length_take]; omega
    have hbz : ∀ z ∈ Z f, 0 ≤ z ∧ z < 256 := fun z h => ⟨(bounds_u8 (hwz z h)).1, by have := (bounds_u8 (hwz z h)).2; omega⟩
    refine ⟨a, _, rfl, hcell, A f, C f, by rw [hll], by rw [hll]; omega, fun y hy => ?_, fun j x hj => ?_⟩
    · simp only [List.mem_map] at hy
      obtain ⟨z, hz1, rfl⟩ := hy
      have := hbz z (List.mem_of_mem_take hz1)
      omega
    · simp only [List.getElem?_map, Option.map_eq_some_iff] at hj
      obtain ⟨z, hz1, rfl⟩ := hj
      have hjl : j < L f := by
        have := (List.getElem?_eq_some_iff.1 hz1).1
        rw [List.length_take] at this; omega
      rw [List.getElem?_take_of_lt hjl] at hz1
      obtain ⟨hj2, hz2⟩ := List.getElem?_eq_some_iff.1 hz1
      have hz3 := hbz z (by rw [← hz2]; exact List.getElem_mem hj2)
      cases hA : A f with
      | none =>
        have := hnone hA
        omega
      | some a' =>
        refine ⟨a', rfl, ?_⟩
        rw [(hsome a' hA).2 j (by omega)]
        congr 2
        rw [List.getD_eq_getElem?_getD, List.getElem?_eq_getElem hj2, hz2]
        simp only [Option.getD_some]
        omega
def putCells (cs : Array Value) : Obj → Obj
  | .cells _ t frozen => .cells cs t frozen
  | o => o
def intCells (k : IntKind) (l : List Int) : Array Value := (l.map (Value.int k)).toArray
/-- A world for the witness: the settled one, the listed table's cells laid. -/
noncomputable def laidWorld (os : Os) : World :=
  let w0 := World.holding Tryd.prog os ⟨#[], #[], []⟩
  { w0 with heap := w0.heap.modify 1 (putCells (intCells .u8 (Lib.deBruijn64tab.map fun (x : Nat) => (x : Int)))) }
end Go.Proofs.YtchhbhgbpimegaaDoor
