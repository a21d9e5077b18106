/-
  The document's Read, Pins, Arrive by their contracts. Made by wip/genbankref.py.
-/
import Derived.Test.YtkodoldkfeopdaaRw
namespace Go.Proofs.Ytkodoldkfeopdaa
open Go.RowKit
set_option linter.unusedVariables false
set_option maxRecDepth 100000
end Go.Proofs.Ytkodoldkfeopdaa
