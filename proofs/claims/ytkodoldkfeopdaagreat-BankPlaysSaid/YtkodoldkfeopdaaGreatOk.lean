/-
  The program's functions. Made by wip/genbankok.py.
-/
import Derived.Test.YtkodoldkfeopdaaGreatOkTick
import Derived.Test.YtkodoldkfeopdaaGreatOkWrite
import Derived.Test.YtkodoldkfeopdaaGreatOkRead
import Derived.Test.YtkodoldkfeopdaaGreatOkAll
namespace Go.Proofs.YtkodoldkfeopdaaGreat
open Go.RowKit
set_option linter.unusedVariables false
set_option maxRecDepth 100000
theorem bank_ok : BankOk where
  peek := peekB_any
  read := readB_any
  write := writeB_any
  pins := pinsB_any
  arrive := arriveB_any
  tick := tickB_any
  all := allB_any
theorem uart_tick : Ua.TickC 35 := Ua.uart_ok.tick
end Go.Proofs.YtkodoldkfeopdaaGreat
