/-
  The program's functions. Made by wip/genbankok.py.
-/
import Derived.Test.YtkodoldkfeopdaaOkTick
import Derived.Test.YtkodoldkfeopdaaOkWrite
import Derived.Test.YtkodoldkfeopdaaOkRead
import Derived.Test.YtkodoldkfeopdaaOkAll
namespace Go.Proofs.Ytkodoldkfeopdaa
open Go.RowKit
set_option linter.unusedVariables false
set_option maxRecDepth 100000
theorem bank_ok : BankOk where
  peek := peekB_any
  read := readB_any
  write := writeB_any
  pins := pinsB_any
  arrive := arriveB_any
  tick := tickB_any
  all := allB_any
theorem uart_tick : Ua.TickC 17 := Ua.uart_ok.tick
theorem timer_ticks : Ti.TicksC 18 := Ti.timer_ok.ticks
end Go.Proofs.Ytkodoldkfeopdaa
