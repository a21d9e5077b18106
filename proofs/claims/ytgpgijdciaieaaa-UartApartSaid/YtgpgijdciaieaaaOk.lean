/-
  The program's own six functions: the condition UartOk holds. Made by wip/genuartok.py.
-/
import Derived.Test.YtgpgijdciaieaaaOkTick
import Derived.Test.YtgpgijdciaieaaaOkWrite
namespace Go.Proofs.Ytgpgijdciaieaaa
open Go.RowKit
set_option linter.unusedVariables false
theorem uart_ok : UartOk where
  mend := mendU_any
  peek := peekU_any
  read := readU_any
  write := writeU_any
  arrive := arriveU_any
  tick := tickU_any
end Go.Proofs.Ytgpgijdciaieaaa
