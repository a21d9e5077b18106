/-
  classOf by its contract: the class of a number, where the listed variables hold what they hold.
-/
import Derived.Test.YtmmdkoomceikiaaDoorBase
import Derived.Test.YtmmdkoomceikiaaDoorNum
namespace Go.Proofs.YtmmdkoomceikiaaDoor
open Go.RowKit
set_option maxHeartbeats 400000 in
theorem classOf_any (n : Nat) (w : World) (hL : Laid w) : Calls Tryd.prog 45 #[.int .u64 n] w fun e w' => e = .returned (.int .i64 (cls n)) ∧ w = w' := by
  have hs := hL.s0
  have hs1 := hL.s1
  have hs2 := hL.s2
  rcases cls_ways n with ⟨h, hc⟩ | ⟨h, h', hc⟩ | ⟨h, h', hc⟩ | ⟨h, hc⟩
  · rw [hc]
    have t1 : ((n : Int) / 64 != 0) = false := by simp; omega
    clear hc
    go_enter Tryd.func45, Tryd.ntmps45
    go_wp2
    refine wp_loop_rounds 1 ?_
    rw [rounds_succ]
    go_wp2
    go_ret
    exact ⟨rfl, rfl⟩
  · rw [hc]
    have t1 : ((n : Int) / 64 != 0) = true := by simp; omega
    have t2 : ((n : Int) / 16384 != 0) = false := by simp; omega
    clear hc
    go_enter Tryd.func45, Tryd.ntmps45
    go_wp2
    refine wp_loop_rounds 2 ?_
    rw [rounds_succ]
    go_wp2
    rw [rounds_succ]
    go_wp2
    go_ret
    exact ⟨rfl, rfl⟩
  · rw [hc]
    have t1 : ((n : Int) / 64 != 0) = true := by simp; omega
    have t2 : ((n : Int) / 16384 != 0) = true := by simp; omega
    have t3 : ((n : Int) / 1073741824 != 0) = false := by simp; omega
    clear hc
    go_enter Tryd.func45, Tryd.ntmps45
    go_wp2
    refine wp_loop_rounds 3 ?_
    rw [rounds_succ]
    go_wp2
    rw [rounds_succ]
    go_wp2
    rw [rounds_succ]
    go_wp2
    go_ret
    exact ⟨rfl, rfl⟩
  · rw [hc]
    have t1 : ((n : Int) / 64 != 0) = true := by simp; omega
    have t2 : ((n : Int) / 16384 != 0) = true := by simp; omega
    have t3 : ((n : Int) / 1073741824 != 0) = true := by simp; omega
    clear hc
    go_enter Tryd.func45, Tryd.ntmps45
    go_wp2
    refine wp_loop_rounds 4 ?_
    rw [rounds_succ]
    go_wp2
    rw [rounds_succ]
    go_wp2
    rw [rounds_succ]
    go_wp2
    rw [rounds_succ]
    go_wp2
    go_ret
    exact ⟨rfl, rfl⟩
end Go.Proofs.YtmmdkoomceikiaaDoor
