/-
  The program's own four functions: the condition GpioOk holds.
-/
import Derived.Test.YticeeeomhdcffaaOkPins
import Derived.Test.YticeeeomhdcffaaOkWrite
namespace Go.Proofs.Yticeeeomhdcffaa
open Go.RowKit
set_option linter.unusedVariables false
theorem gpio_ok : GpioOk where
  write := fun o i e reg v w ho hi he _ _ h1 h2 => by
    by_cases h0 : reg = 0
    · subst h0
      have h := write0 o i e v w
      rw [outN, if_pos rfl, edgeN, if_neg (by decide)]
      exact h
    by_cases h2' : reg = 2
    · subst h2'
      have h := write2 o i e v w
      rw [outN, if_neg (by decide), edgeN, if_pos rfl]
      exact h
    · rw [outN, if_neg h0, edgeN, if_neg h2']
      exact writeN' o i e reg v w h0 h2'
  peek := fun o i e reg w ho hi he _ _ => by
    by_cases h0 : reg = 0
    · subst h0
      exact peek0 o i e w ho hi he
    by_cases h1' : reg = 1
    · subst h1'
      exact peek1 o i e w ho hi he
    by_cases h2' : reg = 2
    · subst h2'
      exact peek2 o i e w ho hi he
    · rw [peekN, if_neg h0, if_neg h1', if_neg h2']
      exact peekN' o i e reg w ho hi he h0 h1' h2'
  pins := fun o i e level w ho hi he hl => pins_any o i e level w ho hi he hl
  rising := fun was is w h1 h2 => rising_any was is w h1 h2
end Go.Proofs.Yticeeeomhdcffaa
