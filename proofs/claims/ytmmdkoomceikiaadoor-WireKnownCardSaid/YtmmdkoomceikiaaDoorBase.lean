/-
  Words shared by the wire proofs: what the listed variables hold, and what holds of a world behind a call. No conditions of its own.
-/
import Derived.Test.YtmmdkoomceikiaaDoorProg
import Derived.WalkKit
import Derived.WalkSpells
import Derived.WalkLawsBesides
import Derived.BigQuiet
import Derived.Deep.QuietTactic
import Derived.Lib.Hide
import Derived.Deep.AppendLies
import Derived.Deep.Draws
import Derived.Maps.AppendAt
namespace Go.Proofs.YtmmdkoomceikiaaDoor
open Go.RowKit

/-- What the two listed variables hold. -/
structure Laid (w : World) : Prop where
  s0 : w.cell? ⟨0, 0, none⟩ = some (.int .i64 1)
  s1 : w.cell? ⟨0, 1, none⟩ = some (.int .i64 2)
  s2 : w.cell? ⟨0, 2, none⟩ = some (.int .i64 4)
  s3 : w.cell? ⟨0, 3, none⟩ = some (.int .i64 8)
  et : w.cell? ⟨1, 0, none⟩ = some (.iface 105 (.agg #[.pointer (some ⟨2, 38, none⟩)]))

theorem Laid.lt {w : World} (h : Laid w) : 2 ≤ w.heap.size := by
  have h1 := World.block_lt_of_cell? w _ h.s0
  have h2 := World.block_lt_of_cell? w _ h.et
  simp at h1 h2
  omega

theorem Laid.below {w w' : World} {B : Nat} (h : Laid w) (hb : Below B w w') (hB : 2 ≤ B) : Laid w' :=
  ⟨(hb.cell (p := ⟨0, 0, none⟩) (by simp; omega)).trans h.s0, (hb.cell (p := ⟨0, 1, none⟩) (by simp; omega)).trans h.s1, (hb.cell (p := ⟨0, 2, none⟩) (by simp; omega)).trans h.s2, (hb.cell (p := ⟨0, 3, none⟩) (by simp; omega)).trans h.s3, (hb.cell (p := ⟨1, 0, none⟩) (by simp; omega)).trans h.et⟩

theorem below_drewN {B : Nat} {a w : World} (h : Below B a w) (n : Nat) : Below B a (w.drewN n) := ⟨h.os, h.tape, h.output, h.size, h.block⟩
end Go.Proofs.YtmmdkoomceikiaaDoor
