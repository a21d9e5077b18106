/-
  The program's own five functions: the condition TimerOk holds.
-/
import Derived.Test.YtgibindoblhkeaaOkPeek
import Derived.Test.YtgibindoblhkeaaOkTicks
namespace Go.Proofs.Ytgibindoblhkeaa
open Go.RowKit
theorem timer_ok : TimerOk where
  peek := peekT_any
  write := writeT_any
  tick := tickT_any
  ticks := ticksT_any
  next := nextT_any
end Go.Proofs.Ytgibindoblhkeaa
