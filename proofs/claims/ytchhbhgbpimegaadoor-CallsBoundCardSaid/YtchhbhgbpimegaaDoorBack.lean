/-
  slices.Backward over one level: the iterator yields that level, at 0, and is over.
-/
import Derived.Test.YtchhbhgbpimegaaDoorSet2
import Derived.Test.YtchhbhgbpimegaaDoorRange
import Derived.RangeFuncNested
import Derived.RangeFuncBound
import Derived.RangeFuncCalls
import Derived.RangeFuncLeaves
import Derived.OwnWalkIn
import Derived.TacticsInMore
import Derived.LoopNIn
import Derived.LoopIn
namespace Go.Proofs.YtchhbhgbpimegaaDoor
open Go.RowKit
set_option linter.unusedVariables false
attribute [local go_sem] Oper.semAt_some
theorem backward_any (b n c : Nat) (w : World) : Calls Tryd.prog 59 #[.slice (some ⟨b, 0, none⟩) n c] w fun e w' => e = .returned (.func (.func 66) #[] #[.pointer (some ⟨w.heap.size, 0, none⟩)]) ∧ w' = w.alloc (.cells #[.slice (some ⟨b, 0, none⟩) n c] 94) := by
  go_enter Tryd.func59, Tryd.ntmps59
  go_wp2
  go_ret
  exact ⟨rfl, rfl⟩
set_option maxRecDepth 100000 in
theorem backward_one (n l Bn lvb c : Nat) (L : Value) (J : World → Prop) (W : World)
    (hc : W.cell? ⟨Bn, 0, none⟩ = some (.slice (some ⟨lvb, 0, none⟩) 1 c))
    (hl : W.cell? ⟨lvb, 0, none⟩ = some L)
    (hY : YieldAt Fence.wide n Tryd.prog l #[.int .i64 0, L] W fun e W' => e = .returned (.bool true) ∧ J W') :
    CallsIn Fence.wide (n + 1) Tryd.prog 66 #[.func (.yield l) #[] #[], .pointer (some ⟨Bn, 0, none⟩)] W (fun e W' => (∃ v, e = .returned v) ∧ J W') := by
  obtain ⟨fn, tmps, asg, bdy, hy, hR⟩ := hY
  have HR := Lib.hid hR
  clear hR
  refine callsIn_of_wp Tryd.func66 rfl trivial ?_ rfl
  simp only [Tryd.ntmps66, List.size_toArray, List.length_cons, List.length_nil, Nat.reduceAdd, Nat.reduceSub, Array.replicate_succ, Array.replicate_zero, List.push_toArray, List.append_toArray, List.nil_append, List.cons_append]
  gi_wp2
  gi_loopw [3] (fun a wr => (a = .int .i64 0 ∧ wr = W) ∨ (a = .int .i64 (-1) ∧ J wr)) (fun a _ => (intOf a + 1).toNat)
  case atStart => exact Or.inl ⟨rfl, rfl⟩
  case round =>
    rcases hrel with ⟨rfl, rfl⟩ | ⟨rfl, hj⟩
    · gi_wp2
      refine HR.out.mono ?_
      rintro e W3 ⟨rfl, hj⟩
      clear hy HR
      gi_wp2
      go_roundw
      case rel => exact Or.inr ⟨rfl, hj⟩
      case measure => simp [intOf]
    · gi_wp2
      refine bodyPost_end (results_none rfl _ _ _) rfl ?_
      exact ⟨⟨_, rfl⟩, hj⟩
end Go.Proofs.YtchhbhgbpimegaaDoor
