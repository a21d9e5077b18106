/-
  An in (wire.In) in memory, and the contracts of what only looks at it: stopped, Left, Place, first. No condition but that the text is shorter than 2^47 bytes.
-/
import Derived.Test.YtmmdkoomceikiaaDoorLay
import Derived.Deep.QuietTactic
import Derived.BigQuiet
namespace Go.Proofs.YtmmdkoomceikiaaDoor
open Go.RowKit

/-- Block b is an in: the bytes s, the place p, the fault f. -/
def InB (w : World) (b : Nat) (s : ByteArray) (p : Nat) (f : Value) : Prop := w.heap[b]? = some (.cells #[.string s, .int .i64 (p : Int), f] 71 (0, 0))
section
variable {w w' : World} {b : Nat} {s : ByteArray} {p : Nat} {f : Value}
theorem InB.c0 (h : InB w b s p f) : w.cell? ⟨b, 0, none⟩ = some (.string s) := by rw [cell_of_row w b 0 _ _ _ h]; rfl
theorem InB.c1 (h : InB w b s p f) : w.cell? ⟨b, 1, none⟩ = some (.int .i64 (p : Int)) := by rw [cell_of_row w b 1 _ _ _ h]; rfl
theorem InB.c2 (h : InB w b s p f) : w.cell? ⟨b, 2, none⟩ = some f := by rw [cell_of_row w b 2 _ _ _ h]; rfl
theorem InB.fz (h : InB w b s p f) (i : Nat) : w.frozen? ⟨b, i, none⟩ = false := by
  unfold InB at h
  simp [World.frozen?, h]
theorem InB.lt (h : InB w b s p f) : b < w.heap.size := by
  rcases Nat.lt_or_ge b w.heap.size with h1 | h1
  · exact h1
  · unfold InB at h; rw [Array.getElem?_eq_none h1] at h; cases h
theorem InB.below {B : Nat} (h : InB w b s p f) (hb : Below B w w') (hB : b < B) : InB w' b s p f := (hb.block b hB).trans h
theorem InB.alloc (h : InB w b s p f) (o : Obj) : InB (w.alloc o) b s p f := (Below.heap_alloc w o b h.lt).trans h
theorem InB.drewN (h : InB w b s p f) (k : Nat) : InB (w.drewN k) b s p f := h
theorem InB.place (h : InB w b s p f) (q : Nat) : InB (w.setCell ⟨b, 1, none⟩ (.int .i64 (q : Int))) b s q f := by
  unfold InB at h ⊢
  simp [World.setCell, Array.getElem?_modify, h]
theorem InB.fault (h : InB w b s p f) (g : Value) : InB (w.setCell ⟨b, 2, none⟩ g) b s p g := by
  unfold InB at h ⊢
  simp [World.setCell, Array.getElem?_modify, h]
end

theorem stopped_no (b : Nat) (w : World) (h : w.cell? ⟨b, 2, none⟩ = some .nilIface) : Calls Tryd.prog 48 #[.pointer (some ⟨b, 0, none⟩)] w fun e w' => e = .returned (.bool false) ∧ w = w' := by
  go_enter Tryd.func48, Tryd.ntmps48
  go_wp2
  go_ret
  exact ⟨rfl, rfl⟩
theorem stopped_yes (b : Nat) (t : TypeId) (v : Value) (w : World) (h : w.cell? ⟨b, 2, none⟩ = some (.iface t v)) : Calls Tryd.prog 48 #[.pointer (some ⟨b, 0, none⟩)] w fun e w' => e = .returned (.bool true) ∧ w = w' := by
  go_enter Tryd.func48, Tryd.ntmps48
  go_wp2
  go_ret
  exact ⟨rfl, rfl⟩
theorem stopped_nil (w : World) : Calls Tryd.prog 48 #[.pointer none] w fun e w' => e = .returned (.bool true) ∧ w = w' := by
  go_enter Tryd.func48, Tryd.ntmps48
  go_wp2
  go_ret
  exact ⟨rfl, rfl⟩

theorem Place_any (b p : Nat) (w : World) (h : w.cell? ⟨b, 1, none⟩ = some (.int .i64 (p : Int))) : Calls Tryd.prog 10 #[.pointer (some ⟨b, 0, none⟩)] w fun e w' => e = .returned (.int .i64 (p : Int)) ∧ w = w' := by
  go_enter Tryd.func10, Tryd.ntmps10
  go_wp2
  go_ret
  exact ⟨rfl, rfl⟩
theorem Place_nil (w : World) : Calls Tryd.prog 10 #[.pointer none] w fun e w' => e = .returned (.int .i64 0) ∧ w = w' := by
  go_enter Tryd.func10, Tryd.ntmps10
  go_wp2
  go_ret
  exact ⟨rfl, rfl⟩

theorem Left_any (b p : Nat) (s : ByteArray) (w : World) (h0 : w.cell? ⟨b, 0, none⟩ = some (.string s)) (h : w.cell? ⟨b, 1, none⟩ = some (.int .i64 (p : Int))) (hp : p ≤ s.size) (hs : s.size ≤ 140737488355328) :
    Calls Tryd.prog 11 #[.pointer (some ⟨b, 0, none⟩)] w fun e w' => e = .returned (.int .i64 ((s.size : Int) - (p : Int))) ∧ ∃ n, w' = w.drewN n := by
  go_enter Tryd.func11, Tryd.ntmps11
  go_wp2
  go_quiet (fail)
  go_wp2
  go_ret
  exact ⟨rfl, _, rfl⟩
theorem Left_nil (w : World) : Calls Tryd.prog 11 #[.pointer none] w fun e w' => e = .returned (.int .i64 0) ∧ w = w' := by
  go_enter Tryd.func11, Tryd.ntmps11
  go_wp2
  go_ret
  exact ⟨rfl, rfl⟩

theorem first_none (b : Nat) (s : ByteArray) (w : World) (h0 : w.cell? ⟨b, 0, none⟩ = some (.string s)) (h : w.cell? ⟨b, 1, none⟩ = some (.int .i64 (s.size : Int))) (hs : s.size ≤ 140737488355328) :
    Calls Tryd.prog 51 #[.pointer (some ⟨b, 0, none⟩)] w fun e w' => e = .returned (.tuple #[.int .u8 0, .int .i64 3]) ∧ ∃ n, w' = w.drewN n := by
  have hz : (((s.size : Int) - (s.size : Int)) == 0) = true := by simp
  have hL := Lib.hid (Left_any b s.size s w h0 h (Nat.le_refl _) hs)
  go_enter Tryd.func51, Tryd.ntmps51
  go_wp2_with (go_at_call 11; refine hL.out.mono ?_; rintro e w' ⟨rfl, n, rfl⟩)
  go_ret2
  exact ⟨rfl, _, rfl⟩
theorem first_some (b p : Nat) (s : ByteArray) (w : World) (h0 : w.cell? ⟨b, 0, none⟩ = some (.string s)) (h : w.cell? ⟨b, 1, none⟩ = some (.int .i64 (p : Int))) (hp : p < s.size) (hs : s.size ≤ 140737488355328) :
    Calls Tryd.prog 51 #[.pointer (some ⟨b, 0, none⟩)] w fun e w' => e = .returned (.tuple #[.int .u8 ((s[p].toNat : Nat) : Int), .int .i64 0]) ∧ ∃ n, w' = w.drewN n := by
  have hz : (((s.size : Int) - (p : Int)) == 0) = false := by simp; omega
  have hL := Lib.hid (Left_any b p s w h0 h (by omega) hs)
  go_enter Tryd.func51, Tryd.ntmps51
  go_wp2_with (go_at_call 11; refine hL.out.mono ?_; rintro e w' ⟨rfl, n, rfl⟩)
  go_quiet (fail)
  go_wp2
  go_ret2
  exact ⟨rfl, _, World.drewN_drewN _ _ _⟩
end Go.Proofs.YtmmdkoomceikiaaDoor
