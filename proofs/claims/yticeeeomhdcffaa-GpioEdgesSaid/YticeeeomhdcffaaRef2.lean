/-
  The document's own Peek, Write: by their contracts.
-/
import Derived.Test.YticeeeomhdcffaaRef
namespace Go.Proofs.Yticeeeomhdcffaa
open Go.RowKit
set_option linter.unusedVariables false
theorem rPeek_any (o i e : Nat) (reg : Int) (w : World) (ho : o < 256) (hi : i < 256) (he : e < 256) : Calls Try.prog 14 #[gv o i e, .int .i64 reg] w fun x w' => x = .returned (.int .i32 (peekN o i e reg)) ∧ Below w.heap.size w w' := by
  have hf : ∀ r : Int, Below w.heap.size w (w.alloc (.cells #[.int .u8 (o : Int), .int .u8 (i : Int), .int .u8 (e : Int)] 25)) := fun _ => (Below.refl _ _).alloc (Nat.le_refl _) _
  unfold gv peekN
  by_cases h0 : reg = 0
  · subst h0
    go_enter Try.func14, Try.ntmps14
    go_wp2
    go_ret
    exact ⟨rfl, hf 0⟩
  · by_cases h1 : reg = 1
    · subst h1
      go_enter Try.func14, Try.ntmps14
      go_wp2
      go_ret
      exact ⟨rfl, hf 0⟩
    · by_cases h2 : reg = 2
      · subst h2
        go_enter Try.func14, Try.ntmps14
        go_wp2
        go_ret
        exact ⟨rfl, hf 0⟩
      · rw [if_neg h0, if_neg h1, if_neg h2]
        go_enter Try.func14, Try.ntmps14
        go_wp2
        go_ret
        exact ⟨rfl, hf 0⟩
theorem rWrite_any (o i e : Nat) (reg v : Int) (w : World) (ho : o < 256) (hi : i < 256) (he : e < 256) (h1 : -2147483648 ≤ v) (h2 : v ≤ 2147483647) : Calls Try.prog 7 #[gv o i e, .int .i64 reg, .int .i32 v] w fun x w' => x = .returned (gv (outN o reg v) i (edgeN e reg v)) ∧ Below w.heap.size w w' := by
  have HL : Hid (∀ W : World, Calls Try.prog 18 #[.int .i32 v] W fun x w' => x = .returned (.int .u8 (lowN v : Nat)) ∧ w' = W) := Lib.hid (fun W => low_any v W h1 h2)
  unfold gv outN edgeN
  generalize lowN v = n at *
  by_cases h0 : reg = 0
  · subst h0
    rw [if_pos rfl, if_neg (by decide)]
    go_enter Try.func7, Try.ntmps7
    go_wp2_with (go_at_call 18; refine (HL.out _).mono ?_; rintro x w1 ⟨rfl, rfl⟩)
    refine bodyPost_ret (v := gv n i e) (results_c Try.results7 _ _ _ _ _ rfl (run_loadVar_v _ _ _ _ Try.underlying25 25 (gc n i e) (two_at _ _ _) (by kernel_rfl))) rfl ⟨rfl, two_below _ _ _⟩
  · by_cases h3 : reg = 2
    · subst h3
      rw [if_neg (by decide), if_pos rfl]
      go_enter Try.func7, Try.ntmps7
      go_wp2_with (go_at_call 18; refine (HL.out _).mono ?_; rintro x w1 ⟨rfl, rfl⟩)
      refine bodyPost_ret (v := gv o i n) (results_c Try.results7 _ _ _ _ _ rfl (run_loadVar_v _ _ _ _ Try.underlying25 25 (gc o i n) (two_at _ _ _) (by kernel_rfl))) rfl ⟨rfl, two_below _ _ _⟩
    · rw [if_neg h0, if_neg h3]
      go_enter Try.func7, Try.ntmps7
      go_wp2
      refine bodyPost_ret (v := gv o i e) (results_c Try.results7 _ _ _ _ _ rfl (run_loadVar_v _ _ _ _ Try.underlying25 25 (gc o i e) (two_at _ _ _) (by kernel_rfl))) rfl ⟨rfl, two_below _ _ _⟩
end Go.Proofs.Yticeeeomhdcffaa
