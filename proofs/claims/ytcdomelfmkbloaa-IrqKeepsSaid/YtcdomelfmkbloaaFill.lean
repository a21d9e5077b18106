/-
  Priorities out of bytes, as the laws make them.
-/
import Derived.Test.YtcdomelfmkbloaaPick
import Derived.Deep.CutBlock
namespace Go.Proofs.Ytcdomelfmkbloaa
open Go.RowKit
set_option linter.unusedVariables false
/-- Eight bytes. -/
structure RawOk (rs : List Nat) : Prop where
  len : rs.length = 8
  lt : ∀ x ∈ rs, x < 256
def rawc (rs : List Nat) : List Value := rs.map fun (x : Nat) => Value.int .u8 ((x : Nat) : Int)
def rawv (rs : List Nat) : Value := .agg (rawc rs).toArray
def raw (rs : List Nat) (v : Nat) : Nat := rs.getD v 0
theorem RawOk.raw {rs : List Nat} (h : RawOk rs) (v : Nat) : raw rs v < 256 := by
  unfold Go.Proofs.Ytcdomelfmkbloaa.raw
  rw [List.getD_eq_getElem?_getD]
  rcases hq : rs[v]? with _ | x
  · simp
  · exact h.lt x (List.mem_of_getElem? hq)
theorem raw_at {w : World} {g : Nat} {rs : List Nat} (h : VRow w g 30 (rawc rs)) (hr : RawOk rs) (v : Nat) (hv : v < 8) : w.cell? ⟨g, v, none⟩ = some (.int .u8 (raw rs v : Int)) := by
  refine VRow.cell h v _ ?_
  unfold rawc raw
  rw [List.getElem?_map, List.getElem?_eq_getElem (by rw [hr.len]; exact hv), List.getD_eq_getElem?_getD, List.getElem?_eq_getElem (by rw [hr.len]; exact hv)]
  rfl
theorem run_index_raw (g k : Nat) (w : World) (hk : k < 8) : (Instr.indexAt 30 (.pointer (some ⟨g, 0, none⟩)) (.int .i64 (k : Int))).run Try.prog w = .ok (.pointer (some ⟨g, k, none⟩)) w := by
  obtain rfl | rfl | rfl | rfl | rfl | rfl | rfl | rfl : k = 0 ∨ k = 1 ∨ k = 2 ∨ k = 3 ∨ k = 4 ∨ k = 5 ∨ k = 6 ∨ k = 7 := by omega
  all_goals kernel_rfl
/-- The priorities, filled up to k. -/
def fillK (rs : List Nat) : Nat → List Int
  | 0 => zeros8
  | k + 1 => (fillK rs k).set k ((raw rs k % 8 : Nat) : Int)
theorem fill_all (rs : List Nat) : ∀ k, PsOk (fillK rs k) ∧ ∀ x ∈ fillK rs k, 0 ≤ x ∧ x < 8
  | 0 => ⟨zeros_ok, by unfold fillK zeros8; decide⟩
  | k + 1 => by
    obtain ⟨h1, h2⟩ := fill_all rs k
    refine ⟨set_ok h1 k (by omega) (by omega), fun x hx => ?_⟩
    rcases List.mem_or_eq_of_mem_set hx with h3 | rfl
    · exact h2 x h3
    · omega
theorem fill_prio (rs : List Nat) (k v : Nat) : 0 ≤ prio (fillK rs k) v ∧ prio (fillK rs k) v < 8 := by
  unfold prio
  rw [List.getD_eq_getElem?_getD]
  rcases hq : (fillK rs k)[v]? with _ | x
  · simp
  · exact (fill_all rs k).2 x (List.mem_of_getElem? hq)
end Go.Proofs.Ytcdomelfmkbloaa
