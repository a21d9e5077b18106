/-
  The law's own 'told' by its contracts: it answers true at nil with the number OK, and at a *api.Fault that holds just the number and the place that are asked for. Condition: the listed variable errors.errorType holds the handle of the type error.
-/
import Derived.Test.YtmebcenjghagoaaGreatDoorErrAs
import Derived.Test.YtmebcenjghagoaaGreatDoorErrIs
import Derived.Deep.RegionHeld3
import Derived.Deep.RegionWith
namespace Go.Proofs.YtmebcenjghagoaaGreatDoor
open Go.RowKit

set_option maxHeartbeats 1000000 in
theorem told_nil (a : Int) (w : World) : Calls Tryz.prog 20 #[.nilIface, .agg #[.int .i64 0, .int .i64 a]] w fun e w' => e = .returned (.bool true) ∧ Below w.heap.size w w' := by
  go_enter Tryz.func20, Tryz.ntmps20
  go_wp2
  go_ret
  exact ⟨rfl, (Below.refl _ _).alloc (Nat.le_refl _) _⟩

/-- What asWorld keeps. -/
theorem asWorld_old (w : World) (t e p : Addr) (hp : p.block < w.heap.size) (hne : p ≠ t) : (asWorld w t e).cell? p = w.cell? p := by
  unfold asWorld
  rw [World.cell?_setCell_other _ _ _ _ (by first | exact hne | exact fun h => hne h.symm), World.cell?_alloc_lt _ _ p (by simp; omega), World.cell?_alloc_lt _ _ p (by simp; omega), World.cell?_alloc_lt _ _ p (by simp; omega), World.cell?_alloc_lt _ _ p hp]
theorem asWorld_below (w : World) (t e : Addr) (B : Nat) (hB : B ≤ t.block) (hB' : B ≤ w.heap.size) : Below B w (asWorld w t e) := by
  unfold asWorld
  exact (((((Below.refl _ _).alloc hB' _).alloc (by simp; omega) _).alloc (by simp; omega) _).alloc (by simp; omega) _).setCell hB _
theorem asWorld_new (w : World) (t e : Addr) (old : Value) (ht : w.cell? t = some old) : (asWorld w t e).cell? t = some (.pointer (some e)) := by
  have htl : t.block < w.heap.size := World.block_lt_of_cell? w _ ht
  unfold asWorld
  refine World.cell?_setCell_same _ t _ (u := old) ?_
  rw [World.cell?_alloc_lt _ _ t (by simp; omega), World.cell?_alloc_lt _ _ t (by simp; omega), World.cell?_alloc_lt _ _ t (by simp; omega), World.cell?_alloc_lt _ _ t htl]
  exact ht

structure AsFacts (b s B : Nat) (c a : Int) (W w' : World) : Prop where
  t : w'.cell? ⟨s + 1, 0, none⟩ = some (.pointer (some ⟨b, 0, none⟩))
  f0 : w'.cell? ⟨s, 0, none⟩ = some (.int .i64 c)
  f1 : w'.cell? ⟨s, 1, none⟩ = some (.int .i64 a)
  b0 : w'.cell? ⟨b, 0, none⟩ = some (.int .i64 c)
  b1 : w'.cell? ⟨b, 1, none⟩ = some (.int .i64 a)
  below : Below B W w'
theorem as_hit2 (b s B : Nat) (c a : Int) (W : World) (hL : LaidL W) (h0 : W.cell? ⟨b, 0, none⟩ = some (.int .i64 c)) (h1 : W.cell? ⟨b, 1, none⟩ = some (.int .i64 a))
    (g0 : W.cell? ⟨s, 0, none⟩ = some (.int .i64 c)) (g1 : W.cell? ⟨s, 1, none⟩ = some (.int .i64 a)) (ht : W.cell? ⟨s + 1, 0, none⟩ = some (.pointer none)) (hf : W.frozen? ⟨s + 1, 0, none⟩ = false) (hB : B ≤ s) (hb : b ≤ s) :
    Calls Tryz.prog 35 #[.iface 68 (.pointer (some ⟨b, 0, none⟩)), .iface 70 (.pointer (some ⟨s + 1, 0, none⟩))] W fun e w' => e = .returned (.bool true) ∧ AsFacts b s B c a W w' := by
  refine (as_hit ⟨b, 0, none⟩ ⟨s + 1, 0, none⟩ (.pointer none) W hL.et ht hf).mono ?_
  rintro e w' ⟨rfl, rfl⟩
  have k1 := World.block_lt_of_cell? W _ h0
  have k2 := World.block_lt_of_cell? W _ g0
  simp only at k1 k2
  refine ⟨rfl, asWorld_new W _ _ _ ht, ?_, ?_, ?_, ?_, asWorld_below W _ _ B (Nat.le_trans hB (Nat.le_succ s)) (by omega)⟩
  · rw [asWorld_old W _ _ _ k2 (by simp)]; exact g0
  · rw [asWorld_old W _ _ _ k2 (by simp)]; exact g1
  · rw [asWorld_old W _ _ _ k1 (by simp; try omega)]; exact h0
  · rw [asWorld_old W _ _ _ k1 (by simp; try omega)]; exact h1

set_option maxRecDepth 100000 in
set_option maxHeartbeats 2000000 in
theorem told_hit (b : Nat) (c a : Int) (w : World) (hL : LaidL w) (hc : (c == 0) = false) (h0 : w.cell? ⟨b, 0, none⟩ = some (.int .i64 c)) (h1 : w.cell? ⟨b, 1, none⟩ = some (.int .i64 a)) :
    Calls Tryz.prog 20 #[.iface 68 (.pointer (some ⟨b, 0, none⟩)), .agg #[.int .i64 c, .int .i64 a]] w fun e w' => e = .returned (.bool true) ∧ Below w.heap.size w w' := by
  have k1 : b < w.heap.size := World.block_lt_of_cell? w _ h0
  have hLL := Lib.hid hL
  clear hL
  go_enter Tryz.func20, Tryz.ntmps20
  go_wp2
  have B0 : Below w.heap.size w ((w.alloc (.cells #[.int .i64 c, .int .i64 a] 49)).alloc (.cells #[.pointer none] 68)) := ((Below.refl _ _).alloc (Nat.le_refl _) _).alloc (by simp) _
  have hL2 := Lib.hid (hLL.out.below B0.drew hLL.out.lt)
  have e0 : ((w.alloc (.cells #[.int .i64 c, .int .i64 a] 49)).alloc (.cells #[.pointer none] 68)).cell? ⟨b, 0, none⟩ = some (.int .i64 c) := (B0.cell (p := ⟨b, 0, none⟩) k1).trans h0
  have e1 : ((w.alloc (.cells #[.int .i64 c, .int .i64 a] 49)).alloc (.cells #[.pointer none] 68)).cell? ⟨b, 1, none⟩ = some (.int .i64 a) := (B0.cell (p := ⟨b, 1, none⟩) k1).trans h1
  have e2 : ((w.alloc (.cells #[.int .i64 c, .int .i64 a] 49)).alloc (.cells #[.pointer none] 68)).cell? ⟨w.heap.size, 0, none⟩ = some (.int .i64 c) := by simp
  have e3 : ((w.alloc (.cells #[.int .i64 c, .int .i64 a] 49)).alloc (.cells #[.pointer none] 68)).cell? ⟨w.heap.size, 1, none⟩ = some (.int .i64 a) := by simp
  have e4 : ((w.alloc (.cells #[.int .i64 c, .int .i64 a] 49)).alloc (.cells #[.pointer none] 68)).cell? ⟨w.heap.size + 1, 0, none⟩ = some (.pointer none) := by simp
  have e5 : ((w.alloc (.cells #[.int .i64 c, .int .i64 a] 49)).alloc (.cells #[.pointer none] 68)).frozen? ⟨w.heap.size + 1, 0, none⟩ = false := by simp
  generalize (w.alloc (.cells #[.int .i64 c, .int .i64 a] 49)).alloc (.cells #[.pointer none] 68) = w1 at *
  generalize hs : w.heap.size = s at *
  have HS := Lib.hid hs
  clear hs
  go_region_with (first
    | (go_at_call 35; refine (as_hit2 b s s c a w1.drew hL2.out e0 e1 e2 e3 e4 e5 (Nat.le_refl _) (by omega)).mono ?_; rintro e w' ⟨rfl, ht, f0, f1, b0, b1, hb⟩)
    | (go_at_call 36; refine (is_hit b c _ (by assumption)).mono ?_; rintro e w' ⟨rfl, rfl⟩))
  all_goals (go_wp2; go_ret; exact ⟨rfl, by rw [HS.out]; exact B0.drew.trans hb⟩)
end Go.Proofs.YtmebcenjghagoaaGreatDoor
