/-
  newFolder by its contract: a folder, and what its map says of each operator.
-/
import Derived.Test.YthmphmndpfkbcaaSlice
namespace Go.Proofs.Ythmphmndpfkbcaa
open Go.RowKit
/-- The entries of the folder's map, the first k of them. -/
def valsE (k : Nat) : Array MapEntry := ((List.range k).map fun (i : Nat) => ({ key := .int .i64 (4 + (i : Int)), val := .int .i64 (if i < 5 then 1 else 2), born := i } : MapEntry)).toArray
theorem valsE_push (k : Nat) : (valsE k).push { key := .int .i64 (4 + (k : Int)), val := .int .i64 (if k < 5 then 1 else 2), born := k } = valsE (k + 1) := by
  unfold valsE
  rw [List.range_succ, List.map_append]
  simp
theorem findNow_none (key : Int) : ∀ (es : List MapEntry) (i : Nat), (∀ e ∈ es, ∃ x : Int, e.key = .int .i64 x ∧ x ≠ key) → Instr.findNow (.int .i64) (.int .i64 key) es i = some none
  | [], i, _ => rfl
  | e :: es, i, h => by
    obtain ⟨x, hx, hne⟩ := h e (by simp)
    unfold Instr.findNow
    have : Instr.sameNow (.int .i64) (.int .i64 key) e.key = some false := by
      rw [hx]
      simp [Instr.sameNow, Ne.symm hne]
    rw [this]
    exact findNow_none key es (i + 1) fun e he => h e (by simp [he])
theorem vals_none (key : Int) (k : Nat) (h : key < 4 ∨ 4 + (k : Int) ≤ key) : Instr.findNow (.int .i64) (.int .i64 key) (valsE k).toList 0 = some none := by
  refine findNow_none key _ _ fun e he => ?_
  simp only [valsE, List.mem_map, List.mem_range] at he
  obtain ⟨i, hi, rfl⟩ := he
  exact ⟨_, rfl, by omega⟩
/-- A folder. -/
structure Folder (w : World) (fp : Nat) : Prop where
  lt : fp < w.heap.size
  map : ∃ m, m < w.heap.size ∧ w.cell? ⟨fp, 0, none⟩ = some (.map (some m)) ∧ w.heap[m]? = some (.map (valsE 21) 21)
theorem Folder.below {w w' : World} {fp B : Nat} (h : Folder w fp) (hb : Below B w w') (hB : w.heap.size ≤ B) : Folder w' fp := by
  obtain ⟨hl, m, hm, hc, hh⟩ := h
  have hs := hb.size
  refine ⟨by omega, m, by omega, ?_, ?_⟩
  · rw [hb.cell (p := ⟨fp, 0, none⟩) (by show fp < B; omega)]
    exact hc
  · rw [hb.block m (by omega)]
    exact hh
/-- What the map says of an operator. -/
theorem vals_yes (op : Int) (h4 : 4 ≤ op) (h24 : op ≤ 24) : Instr.findNow (.int .i64) (.int .i64 op) (valsE 21).toList 0 = some (some ((op - 4).toNat, .int .i64 (valsOf op))) := by
  rcases (by omega : op = 4 ∨ op = 5 ∨ op = 6 ∨ op = 7 ∨ op = 8 ∨ op = 9 ∨ op = 10 ∨ op = 11 ∨ op = 12 ∨ op = 13 ∨ op = 14 ∨ op = 15 ∨ op = 16 ∨ op = 17 ∨ op = 18 ∨ op = 19 ∨ op = 20 ∨ op = 21 ∨ op = 22 ∨ op = 23 ∨ op = 24) with rfl | rfl | rfl | rfl | rfl | rfl | rfl | rfl | rfl | rfl | rfl | rfl | rfl | rfl | rfl | rfl | rfl | rfl | rfl | rfl | rfl
  all_goals kernel_rfl
/-- A block turned. -/
def setMap (w : World) (r : Nat) (o : Obj) : World := { w with heap := w.heap.setIfInBounds r o }
theorem setMap_size (w : World) (r : Nat) (o : Obj) : (setMap w r o).heap.size = w.heap.size := by simp [setMap]
theorem setMap_same (w : World) (r : Nat) (o : Obj) (h : r < w.heap.size) : (setMap w r o).heap[r]? = some o := by
  show (w.heap.setIfInBounds r o)[r]? = some o
  simp [h]
theorem setMap_other (w : World) (r k : Nat) (o : Obj) (h : k ≠ r) : (setMap w r o).heap[k]? = w.heap[k]? := by
  show (w.heap.setIfInBounds r o)[k]? = w.heap[k]?
  rw [Array.getElem?_setIfInBounds, if_neg (fun e => h e.symm)]
theorem setMap_below {B : Nat} {a w : World} (h : Below B a w) {r : Nat} (hr : B ≤ r) (o : Obj) : Below B a (setMap w r o) :=
  h.trans ⟨rfl, rfl, rfl, by rw [setMap_size]; exact Nat.le_refl _, fun k hk => setMap_other w r k o (by omega)⟩
section
variable {P : Program}
theorem wpList_ins {ops : Array Oper} {rest : List Oper} {o : Oper} {a : Act} {w : World} {Q : Exit → Act → World → Prop} (hg : o.guard = none) (m x v : Operand) (t : TypeId) (hop : o.op = .mapUpdate t m x v)
    (k e : TypeId) (ht : P.underlying t = some (.map k e)) (hk : P.underlying k = some (.int .i64)) (r : Nat) (es : Array MapEntry) (c : Nat) (hm : a.eval m = .map (some r)) (hb : w.heap[r]? = some (.map es c))
    (key : Int) (val : Value) (hx : a.eval x = .int .i64 key) (hv : a.eval v = val) (hf : Instr.findNow (.int .i64) (.int .i64 key) es.toList 0 = some none)
    (h : wpList P ops Q rest (a.put o.dst undef) (setMap w r (.map (es.push { key := .int .i64 key, val := val, born := c }) (c + 1)))) : wpList P ops Q (o :: rest) a w := by
  refine wpList_plain hg fun K' hK' => ?_
  have hck : (Instr.checkKey false 10000 k (.int .i64 key)).run P w = .ok () w := MapKept.run_checkKey (k := .int .i64 key) hk (by simp [MapKept.IsKey]) false 9999
  have hrun : (Instr.mapUpdate t (.map (some r)) (.int .i64 key) val).run P w = .ok () (setMap w r (.map (es.push { key := .int .i64 key, val := val, born := c }) (c + 1))) := by
    unfold setMap
    simp [Instr.mapUpdate, run_underlying ht, MapKept.run_getObj_map hb, hck, MapKept.run_findKey hk hf, MapKept.run_setObj_map _ hb, Result.andThen]
  unfold Oper.wp
  simp [execOp, hop, hm, hx, hv, hrun, Result.andThen]
  exact hK' _ _ h
end
structure FolderK (w wr : World) (k : Nat) : Prop where
  map : wr.heap[w.heap.size]? = some (.map (valsE k) k)
  cell : wr.cell? ⟨w.heap.size + 1, 0, none⟩ = some (.map (some w.heap.size))
  size : w.heap.size + 2 ≤ wr.heap.size
  below : Below w.heap.size w wr
theorem FolderK.put {w wr : World} {k : Nat} (h : FolderK w wr k) (key x : Int) (hk : key = 4 + (k : Int)) (hx : x = if k < 5 then 1 else 2) : FolderK w (setMap wr w.heap.size (.map ((valsE k).push { key := .int .i64 key, val := .int .i64 x, born := k }) (k + 1))) (k + 1) := by
  have hs := h.size
  subst hk hx
  refine ⟨?_, ?_, by rw [setMap_size]; exact hs, setMap_below h.below (Nat.le_refl _) _⟩
  · rw [setMap_same _ _ _ (by omega), valsE_push]
  · rw [World.cell?_of_block (setMap_other _ _ _ _ (by show w.heap.size + 1 ≠ w.heap.size; omega))]
    exact h.cell
theorem FolderK.start (w : World) (t : TypeId) : FolderK w ((w.alloc (.map #[] 0)).alloc (.cells #[.map (some w.heap.size)] t)) 0 := by
  have hs : (w.alloc (.map #[] 0)).heap.size = w.heap.size + 1 := by simp
  refine ⟨?_, ?_, by simp, ((Below.refl _ _).alloc (Nat.le_refl _) _).alloc (by rw [hs]; omega) _⟩
  · rw [Below.heap_alloc _ _ _ (by rw [hs]; omega)]
    exact alloc_at w _
  · have h := alloc_at (w.alloc (.map #[] 0)) (.cells #[.map (some w.heap.size)] t)
    rw [hs] at h
    rw [cell_of_row _ _ _ _ _ _ h]
    rfl
theorem mtyV : Try.prog.underlying 68 = some (.map 3 3) := by kernel_rfl
set_option maxRecDepth 100000 in
theorem newFolder_any (w : World) : Calls Try.prog 20 #[] w fun e w' => e = .returned (.pointer (some ⟨w.heap.size + 1, 0, none⟩)) ∧ Folder w' (w.heap.size + 1) ∧ Below w.heap.size w w' := by
  have hmm := @run_makeMap Try.prog
  go_enter Try.func20, Try.ntmps20
  go_wp2
  go_loopw [2] (fun iv wr => ∃ k : Nat, k ≤ 5 ∧ iv = .int .i64 (4 + (k : Int)) ∧ FolderK w wr k) (fun iv _ => (9 - intOf iv).toNat)
  case atStart => exact ⟨0, by omega, rfl, FolderK.start w _⟩
  case round =>
    obtain ⟨k, hk, rfl, HF⟩ := hrel
    have hc := HF.cell
    by_cases hlt : k < 5
    · have hi : (k : Int) < 5 := by omega
      go_wp2_with (refine wpList_ins rfl _ _ _ 68 rfl _ _ mtyV uInt w.heap.size _ _ rfl HF.map _ _ rfl rfl (vals_none _ _ (by omega)) ?_)
      go_roundw
      case rel => exact ⟨k + 1, by omega, by go_num, HF.put _ _ (by omega) (by rw [if_pos (by omega)])⟩
      case measure =>
        simp [intOf]
        omega
    · obtain rfl : k = 5 := by omega
      rw [show 4 + ((5 : Nat) : Int) = 9 from rfl]
      go_wp2
      go_loopw [3] (fun iv wr => ∃ k : Nat, 5 ≤ k ∧ k ≤ 21 ∧ iv = .int .i64 (4 + (k : Int)) ∧ FolderK w wr k) (fun iv _ => (25 - intOf iv).toNat)
      case atStart => exact ⟨5, by omega, by omega, rfl, HF⟩
      case round =>
        clear hc HF
        obtain ⟨k, hk5, hk, rfl, HF⟩ := hrel
        have hc := HF.cell
        by_cases hlt : k < 21
        · have hi : (k : Int) < 21 := by omega
          go_wp2_with (refine wpList_ins rfl _ _ _ 68 rfl _ _ mtyV uInt w.heap.size _ _ rfl HF.map _ _ rfl rfl (vals_none _ _ (by omega)) ?_)
          go_roundw
          case rel => exact ⟨k + 1, by omega, by omega, by go_num, HF.put _ _ (by omega) (by rw [if_neg (by omega)])⟩
          case measure =>
            simp [intOf]
            omega
        · obtain rfl : k = 21 := by omega
          go_wp2
          go_ret
          refine ⟨rfl, ⟨by have := HF.size; omega, w.heap.size, by have := HF.size; omega, HF.cell, HF.map⟩, HF.below⟩
end Go.Proofs.Ythmphmndpfkbcaa
