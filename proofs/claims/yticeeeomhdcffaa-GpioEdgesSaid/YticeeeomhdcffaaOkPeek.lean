/-
  Peek by its contract.
-/
import Derived.Test.YticeeeomhdcffaaOkRegs
namespace Go.Proofs.Yticeeeomhdcffaa
open Go.RowKit
set_option linter.unusedVariables false
theorem zrd (w : World) : (zeroValue 53).run Try.prog w = .ok .nilFunc w := by kernel_rfl
theorem zwr (w : World) : (zeroValue 46).run Try.prog w = .ok .nilFunc w := by kernel_rfl
/-- What lies behind readers: the pins, the box of the pointer, the map. -/
structure Reg (w W : World) (o i e : Nat) : Prop where
  g : GRow W w.heap.size 24 o i e
  p : W.cell? ⟨w.heap.size + 1, 0, none⟩ = some (.pointer (some ⟨w.heap.size, 0, none⟩))
  m : W.heap[w.heap.size + 1 + 1]? = some (.map (rds (w.heap.size + 1)) 3)
  b : Below w.heap.size w W
theorem reg_new (w : World) (o i e : Nat) (W : World) (hW : W = w.alloc (.cells (gc o i e).toArray 24)) : Reg w ((W.alloc (.cells #[.pointer (some ⟨w.heap.size, 0, none⟩)] 50)).alloc (.map (rds W.heap.size) 3)) o i e := by
  subst hW
  have hs : (w.alloc (.cells (gc o i e).toArray 24)).heap.size = w.heap.size + 1 := by simp
  refine ⟨?_, ?_, ?_, ?_⟩
  · exact GRow.below (show GRow _ _ _ o i e from alloc_at _ _) (two_below _ _ _) (by simp)
  · have h : VRow (((w.alloc (.cells (gc o i e).toArray 24)).alloc (.cells #[.pointer (some ⟨w.heap.size, 0, none⟩)] 50)).alloc (.map (rds (w.alloc (.cells (gc o i e).toArray 24)).heap.size) 3)) (w.alloc (.cells (gc o i e).toArray 24)).heap.size 50 [.pointer (some ⟨w.heap.size, 0, none⟩)] := two_at0 _ _ _
    rw [← hs]
    exact h.cell 0 _ rfl
  · have h := two_at (w.alloc (.cells (gc o i e).toArray 24)) (.cells #[.pointer (some ⟨w.heap.size, 0, none⟩)] 50) (.map (rds (w.alloc (.cells (gc o i e).toArray 24)).heap.size) 3)
    rw [hs] at h ⊢
    exact h
  · exact ((Below.refl _ _).alloc (Nat.le_refl _) _).trans ((two_below _ _ _).mono (by simp))
set_option maxRecDepth 100000 in
theorem rd0 (b g : Nat) (o : Nat) (W : World) (hp : W.cell? ⟨b, 0, none⟩ = some (.pointer (some ⟨g, 0, none⟩))) (hg : W.cell? ⟨g, 0, none⟩ = some (.int .u8 (o : Int))) :
    Calls Try.prog 24 #[.pointer (some ⟨b, 0, none⟩)] W fun x w' => x = .returned (.int .u8 (o : Int)) ∧ w' = W := by
  go_enter Try.func24, Try.ntmps24
  go_wp2
  go_ret
  exact ⟨rfl, rfl⟩
set_option maxRecDepth 100000 in
theorem rd1 (b g : Nat) (o : Nat) (W : World) (hp : W.cell? ⟨b, 0, none⟩ = some (.pointer (some ⟨g, 0, none⟩))) (hg : W.cell? ⟨g, 1, none⟩ = some (.int .u8 (o : Int))) :
    Calls Try.prog 25 #[.pointer (some ⟨b, 0, none⟩)] W fun x w' => x = .returned (.int .u8 (o : Int)) ∧ w' = W := by
  go_enter Try.func25, Try.ntmps25
  go_wp2
  go_ret
  exact ⟨rfl, rfl⟩
set_option maxRecDepth 100000 in
theorem rd2 (b g : Nat) (o : Nat) (W : World) (hp : W.cell? ⟨b, 0, none⟩ = some (.pointer (some ⟨g, 0, none⟩))) (hg : W.cell? ⟨g, 2, none⟩ = some (.int .u8 (o : Int))) :
    Calls Try.prog 26 #[.pointer (some ⟨b, 0, none⟩)] W fun x w' => x = .returned (.int .u8 (o : Int)) ∧ w' = W := by
  go_enter Try.func26, Try.ntmps26
  go_wp2
  go_ret
  exact ⟨rfl, rfl⟩
theorem find_none (reg : Int) (b : Nat) (h0 : ((0 : Int) == reg) = false) (h1 : ((1 : Int) == reg) = false) (h2 : ((2 : Int) == reg) = false) : Instr.findNow (.int .i64) (.int .i64 reg) (rds b).toList 0 = some none := by
  have e0 : ¬ reg = 0 := fun h => by subst h; cases h0
  have e1 : ¬ reg = 1 := fun h => by subst h; cases h1
  have e2 : ¬ reg = 2 := fun h => by subst h; cases h2
  have f0 : (reg == (0 : Int)) = false := by simpa using e0
  have f1 : (reg == (1 : Int)) = false := by simpa using e1
  have f2 : (reg == (2 : Int)) = false := by simpa using e2
  simp only [Instr.findNow, Instr.sameNow, f0, f1, f2, if_true]
set_option maxRecDepth 100000 in
theorem peek0 (o i e : Nat) (w : World) (ho : o < 256) (hi : i < 256) (he : e < 256) : Calls Try.prog 13 #[gv o i e, .int .i64 0] w fun x w' => x = .returned (.int .i32 o) ∧ Below w.heap.size w w' := by
  have HR := Lib.hid (fun W => readers_any w.heap.size W)
  have hwr : IntKind.i32.wrap (o : Int) = (o : Int) := by
    simp [IntKind.wrap, IntKind.bits, IntKind.signed]
    omega
  unfold gv
  go_enter Try.func13, Try.ntmps13
  go_wp2_with (first
    | (go_at_call 24; refine (rd0 _ _ _ _ G1.out.p (G1.out.g.three.1)).mono ?_; rintro x' w3 ⟨rfl, rfl⟩)
    | (go_at_call 21; refine (HR.out _).mono ?_; rintro x' w1 ⟨rfl, hw1⟩
       have G1 : Hid (Reg w w1 o i e) := Lib.hid (by
         subst hw1
         exact reg_new w o i e _ rfl)
       have hl := run_look mtyR uInt w1 (w.heap.size + 1 + 1) _ _ G1.out.m 0 0 _ rfl
       clear hw1))
  go_ret
  exact ⟨by first | rfl | (rw [hwr]), G1.out.b⟩
set_option maxRecDepth 100000 in
theorem peek1 (o i e : Nat) (w : World) (ho : o < 256) (hi : i < 256) (he : e < 256) : Calls Try.prog 13 #[gv o i e, .int .i64 1] w fun x w' => x = .returned (.int .i32 i) ∧ Below w.heap.size w w' := by
  have HR := Lib.hid (fun W => readers_any w.heap.size W)
  have hwr : IntKind.i32.wrap (i : Int) = (i : Int) := by
    simp [IntKind.wrap, IntKind.bits, IntKind.signed]
    omega
  unfold gv
  go_enter Try.func13, Try.ntmps13
  go_wp2_with (first
    | (go_at_call 25; refine (rd1 _ _ _ _ G1.out.p (G1.out.g.three.2.1)).mono ?_; rintro x' w3 ⟨rfl, rfl⟩)
    | (go_at_call 21; refine (HR.out _).mono ?_; rintro x' w1 ⟨rfl, hw1⟩
       have G1 : Hid (Reg w w1 o i e) := Lib.hid (by
         subst hw1
         exact reg_new w o i e _ rfl)
       have hl := run_look mtyR uInt w1 (w.heap.size + 1 + 1) _ _ G1.out.m 1 1 _ rfl
       clear hw1))
  go_ret
  exact ⟨by first | rfl | (rw [hwr]), G1.out.b⟩
set_option maxRecDepth 100000 in
theorem peek2 (o i e : Nat) (w : World) (ho : o < 256) (hi : i < 256) (he : e < 256) : Calls Try.prog 13 #[gv o i e, .int .i64 2] w fun x w' => x = .returned (.int .i32 e) ∧ Below w.heap.size w w' := by
  have HR := Lib.hid (fun W => readers_any w.heap.size W)
  have hwr : IntKind.i32.wrap (e : Int) = (e : Int) := by
    simp [IntKind.wrap, IntKind.bits, IntKind.signed]
    omega
  unfold gv
  go_enter Try.func13, Try.ntmps13
  go_wp2_with (first
    | (go_at_call 26; refine (rd2 _ _ _ _ G1.out.p (G1.out.g.three.2.2)).mono ?_; rintro x' w3 ⟨rfl, rfl⟩)
    | (go_at_call 21; refine (HR.out _).mono ?_; rintro x' w1 ⟨rfl, hw1⟩
       have G1 : Hid (Reg w w1 o i e) := Lib.hid (by
         subst hw1
         exact reg_new w o i e _ rfl)
       have hl := run_look mtyR uInt w1 (w.heap.size + 1 + 1) _ _ G1.out.m 2 2 _ rfl
       clear hw1))
  go_ret
  exact ⟨by first | rfl | (rw [hwr]), G1.out.b⟩
set_option maxRecDepth 100000 in
theorem peekN' (o i e : Nat) (reg : Int) (w : World) (ho : o < 256) (hi : i < 256) (he : e < 256) (h0 : reg ≠ 0) (h1 : reg ≠ 1) (h2 : reg ≠ 2) : Calls Try.prog 13 #[gv o i e, .int .i64 reg] w fun x w' => x = .returned (.int .i32 0) ∧ Below w.heap.size w w' := by
  have HR := Lib.hid (fun W => readers_any w.heap.size W)
  have n0 : ((0 : Int) == reg) = false := by simpa using fun h => h0 h.symm
  have n1 : ((1 : Int) == reg) = false := by simpa using fun h => h1 h.symm
  have n2 : ((2 : Int) == reg) = false := by simpa using fun h => h2 h.symm
  have HN0 := Lib.hid n0
  have HN1 := Lib.hid n1
  have HN2 := Lib.hid n2
  clear n0 n1 n2 h0 h1 h2
  unfold gv
  go_enter Try.func13, Try.ntmps13
  go_wp2_with (first
    | (go_at_call 21; refine (HR.out _).mono ?_; rintro x' w1 ⟨rfl, hw1⟩
       have G1 : Hid (Reg w w1 o i e) := Lib.hid (by
         subst hw1
         exact reg_new w o i e _ rfl)
       have hl := run_look_none mtyR uInt w1 (w.heap.size + 1 + 1) _ _ G1.out.m reg _ (zrd _) (find_none reg _ HN0.out HN1.out HN2.out)
       clear hw1))
  go_ret
  exact ⟨rfl, G1.out.b⟩
end Go.Proofs.Yticeeeomhdcffaa
