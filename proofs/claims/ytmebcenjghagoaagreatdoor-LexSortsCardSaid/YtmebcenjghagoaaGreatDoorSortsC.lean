/-
  A slice of one byte as a string. No condition.
-/
import Derived.Test.YtmebcenjghagoaaGreatDoorSortsM
import Derived.Test.YtmebcenjghagoaaGreatDoorWorks
import Derived.Test.YtmebcenjghagoaaGreatDoorSortsO
import Derived.Lib.SlBytesRow
import Derived.Test.YtmebcenjghagoaaGreatDoorMade
namespace Go.Proofs.YtmebcenjghagoaaGreatDoor
open Go.RowKit Go.Lib Go.Shelf

theorem conv1 (b : Nat) (w : World) (hb : b < 256) : (Go.convert 22 9 (.slice (some ⟨w.heap.size, 0, none⟩) 1 1)).run Tryz.prog (w.alloc (.cells #[.int .u8 (b : Int)] 5)) = .ok (.string (one1 b)) (w.alloc (.cells #[.int .u8 (b : Int)] 5)) :=
  run_convert_whole _ 22 5 9 Tryz.underlying22 Tryz.underlying5 Tryz.underlying9 w.heap.size 0 (one1 b) (fun i hi => by
    obtain rfl : i = 0 := by have : i < 1 := hi; omega
    rw [World.cell?_alloc_mark]
    show some (Value.int .u8 (b : Int)) = some (Value.int .u8 ((b.toUInt8).toNat : Int))
    rw [show b.toUInt8.toNat = b from by simp; omega]) 1
end Go.Proofs.YtmebcenjghagoaaGreatDoor
