/-
  Write by its contract.
-/
import Derived.Test.YticeeeomhdcffaaOkPeek
namespace Go.Proofs.Yticeeeomhdcffaa
open Go.RowKit
set_option linter.unusedVariables false
structure Reg2 (w W : World) (o i e : Nat) : Prop where
  g : GRow W w.heap.size 24 o i e
  z : GRow W (w.heap.size + 1) 24 0 0 0
  p : W.cell? ⟨w.heap.size + 1 + 1, 0, none⟩ = some (.pointer (some ⟨w.heap.size, 0, none⟩))
  m : W.heap[w.heap.size + 1 + 1 + 1]? = some (.map (wrs (w.heap.size + 1 + 1)) 2)
  b : Below w.heap.size w W
theorem Reg2.below {w W W' : World} {o i e : Nat} (h : Reg2 w W o i e) (hb : Below W.heap.size W W') : Reg2 w W' o i e :=
  ⟨h.g.below hb h.g.lt, h.z.below hb h.z.lt, (hb.cell (World.block_lt_of_cell? W _ h.p)).trans h.p, (hb.block _ (Array.getElem?_eq_some_iff.1 h.m).1).trans h.m, h.b.trans (hb.mono h.b.size)⟩
theorem reg2_new (w : World) (o i e : Nat) (W : World) (hW : W = (w.alloc (.cells (gc o i e).toArray 24)).alloc (.cells (gc 0 0 0).toArray 24)) : Reg2 w ((W.alloc (.cells #[.pointer (some ⟨w.heap.size, 0, none⟩)] 50)).alloc (.map (wrs W.heap.size) 2)) o i e := by
  have hs : W.heap.size = w.heap.size + 1 + 1 := by subst hW; simp
  have hB : Below W.heap.size W ((W.alloc (.cells #[.pointer (some ⟨w.heap.size, 0, none⟩)] 50)).alloc (.map (wrs W.heap.size) 2)) := two_below _ _ _
  have g0 : GRow W w.heap.size 24 o i e := by subst hW; exact two_at0 _ _ _
  have z0 : GRow W (w.heap.size + 1) 24 0 0 0 := by subst hW; exact two_at _ _ _
  have b0 : Below w.heap.size w W := by subst hW; exact two_below _ _ _
  refine ⟨g0.below hB g0.lt, z0.below hB z0.lt, ?_, ?_, b0.trans (hB.mono b0.size)⟩
  · have h : VRow ((W.alloc (.cells #[.pointer (some ⟨w.heap.size, 0, none⟩)] 50)).alloc (.map (wrs W.heap.size) 2)) W.heap.size 50 [.pointer (some ⟨w.heap.size, 0, none⟩)] := two_at0 _ _ _
    rw [← hs]
    exact h.cell 0 _ rfl
  · have h := two_at W (.cells #[.pointer (some ⟨w.heap.size, 0, none⟩)] 50) (.map (wrs W.heap.size) 2)
    rw [hs] at h ⊢
    exact h
set_option maxRecDepth 100000 in
theorem wr0 (b g o i e n : Nat) (W : World) (hp : W.cell? ⟨b, 0, none⟩ = some (.pointer (some ⟨g, 0, none⟩))) (hg : GRow W g 24 o i e) :
    Calls Try.prog 22 #[.int .u8 (n : Int), .pointer (some ⟨b, 0, none⟩)] W fun x w' => x = .returned (.tuple #[]) ∧ GRow w' g 24 n i e ∧ (∀ k, k ≠ g → w'.heap[k]? = W.heap[k]?) ∧ Below g W w' := by
  go_enter Try.func22, Try.ntmps22
  go_wp2_with ((with_reducible show wpList _ _ _ (⟨none, .store 5 (.tmp 6) (.tmp 4), _, _, _, _⟩ :: _) _ _); refine wpList_store_c rfl 5 _ _ rfl g 0 (by exact rfl) (.int .u8 (n : Int)) (by exact rfl) rfl (by kernel_rfl) 24 _ hg (show 0 < 3 by decide) ?_; intro w3 HN HO HB)
  go_end0
  exact ⟨rfl, HN.out, HO.out, HB.out⟩
set_option maxRecDepth 100000 in
theorem wr2 (b g o i e n : Nat) (W : World) (hp : W.cell? ⟨b, 0, none⟩ = some (.pointer (some ⟨g, 0, none⟩))) (hg : GRow W g 24 o i e) :
    Calls Try.prog 23 #[.int .u8 (n : Int), .pointer (some ⟨b, 0, none⟩)] W fun x w' => x = .returned (.tuple #[]) ∧ GRow w' g 24 o i n ∧ (∀ k, k ≠ g → w'.heap[k]? = W.heap[k]?) ∧ Below g W w' := by
  go_enter Try.func23, Try.ntmps23
  go_wp2_with ((with_reducible show wpList _ _ _ (⟨none, .store 5 (.tmp 6) (.tmp 4), _, _, _, _⟩ :: _) _ _); refine wpList_store_c rfl 5 _ _ rfl g 2 (by exact rfl) (.int .u8 (n : Int)) (by exact rfl) rfl (by kernel_rfl) 24 _ hg (show 2 < 3 by decide) ?_; intro w3 HN HO HB)
  go_end0
  exact ⟨rfl, HN.out, HO.out, HB.out⟩
theorem stays_p {w W w3 : World} {o i e : Nat} (ho3 : ∀ k, k ≠ w.heap.size → w3.heap[k]? = W.heap[k]?) (hb : Below w.heap.size W w3) (h : Reg2 w W o i e) : w3.cell? ⟨w.heap.size + 1 + 1, 0, none⟩ = some (.pointer (some ⟨w.heap.size, 0, none⟩)) := by
  refine Eq.trans ?_ h.p
  unfold World.cell?
  simp only [ho3 (w.heap.size + 1 + 1) (by omega)]
set_option maxRecDepth 100000 in
theorem write0 (o i e : Nat) (v : Int) (w : World) : Calls Try.prog 6 #[gv o i e, .int .i64 0, .int .i32 v] w fun x w' => x = .returned (gv (lowN v) i e) ∧ Below w.heap.size w w' := by
  have HR := Lib.hid (fun W => writers_any w.heap.size W)
  have hc := lowN_cast v
  have hwr : Hid (v % 256 = ((lowN v : Nat) : Int)) := Lib.hid hc.symm
  clear hc
  unfold gv
  go_enter Try.func6, Try.ntmps6
  go_wp2_with (first
    | ((with_reducible show wpList _ _ _ (⟨none, .store 24 (.tmp 6) (.tmp 20), _, _, _, _⟩ :: _) _ _); refine wpList_store_v rfl 24 _ _ rfl (w.heap.size + 1) (by exact rfl) (gc (lowN v) i e) (by exact rfl) (by kernel_rfl) (gc_one _ _ _) 24 _ G3.out.z rfl ?_; intro w4 HN4 HO4 HB4)
    | ((with_reducible show wpList _ _ _ (⟨some 20, .load 24 (.tmp 3), _, _, _, _⟩ :: _) _ _); refine wpList_load_g (by rfl) 24 _ rfl w.heap.size (by exact rfl) _ Try.underlying24 (by kernel_rfl) 24 _ _ _ G3.out.g ?_)
    | (go_at_call 22; rw [hwr.out]; refine (wr0 _ _ o i e (lowN v) _ G1.out.p G1.out.g).mono ?_; rintro x' w3 ⟨rfl, hg3, ho3, hb3⟩
       have G3 : Hid (Reg2 w w3 (lowN v) i e) := Lib.hid ⟨hg3, (ho3 _ (by omega)).trans G1.out.z, (stays_p ho3 hb3 G1.out), (ho3 _ (by omega)).trans G1.out.m, G1.out.b.trans hb3⟩
       clear hg3 ho3 hb3)
    | (go_at_call 17; refine (HR.out _).mono ?_; rintro x' w1 ⟨rfl, hw1⟩
       have G1 : Hid (Reg2 w w1 o i e) := Lib.hid (by
         subst hw1
         exact reg2_new w o i e _ rfl)
       have hl := run_look mtyW uInt w1 (w.heap.size + 1 + 1 + 1) _ _ G1.out.m 0 0 _ rfl
       clear hw1))
  exact bodyPost_ret (v := gv (lowN v) i e) (results_c Try.results6 _ _ _ _ _ rfl (run_loadVar_v _ _ _ _ Try.underlying24 24 (gc (lowN v) i e) HN4.out (by kernel_rfl))) rfl ⟨rfl, G3.out.b.trans (HB4.out.mono (by omega))⟩
set_option maxRecDepth 100000 in
theorem write2 (o i e : Nat) (v : Int) (w : World) : Calls Try.prog 6 #[gv o i e, .int .i64 2, .int .i32 v] w fun x w' => x = .returned (gv o i (lowN v)) ∧ Below w.heap.size w w' := by
  have HR := Lib.hid (fun W => writers_any w.heap.size W)
  have hc := lowN_cast v
  have hwr : Hid (v % 256 = ((lowN v : Nat) : Int)) := Lib.hid hc.symm
  clear hc
  unfold gv
  go_enter Try.func6, Try.ntmps6
  go_wp2_with (first
    | ((with_reducible show wpList _ _ _ (⟨none, .store 24 (.tmp 6) (.tmp 20), _, _, _, _⟩ :: _) _ _); refine wpList_store_v rfl 24 _ _ rfl (w.heap.size + 1) (by exact rfl) (gc o i (lowN v)) (by exact rfl) (by kernel_rfl) (gc_one _ _ _) 24 _ G3.out.z rfl ?_; intro w4 HN4 HO4 HB4)
    | ((with_reducible show wpList _ _ _ (⟨some 20, .load 24 (.tmp 3), _, _, _, _⟩ :: _) _ _); refine wpList_load_g (by rfl) 24 _ rfl w.heap.size (by exact rfl) _ Try.underlying24 (by kernel_rfl) 24 _ _ _ G3.out.g ?_)
    | (go_at_call 23; rw [hwr.out]; refine (wr2 _ _ o i e (lowN v) _ G1.out.p G1.out.g).mono ?_; rintro x' w3 ⟨rfl, hg3, ho3, hb3⟩
       have G3 : Hid (Reg2 w w3 o i (lowN v)) := Lib.hid ⟨hg3, (ho3 _ (by omega)).trans G1.out.z, (stays_p ho3 hb3 G1.out), (ho3 _ (by omega)).trans G1.out.m, G1.out.b.trans hb3⟩
       clear hg3 ho3 hb3)
    | (go_at_call 17; refine (HR.out _).mono ?_; rintro x' w1 ⟨rfl, hw1⟩
       have G1 : Hid (Reg2 w w1 o i e) := Lib.hid (by
         subst hw1
         exact reg2_new w o i e _ rfl)
       have hl := run_look mtyW uInt w1 (w.heap.size + 1 + 1 + 1) _ _ G1.out.m 2 1 _ rfl
       clear hw1))
  exact bodyPost_ret (v := gv o i (lowN v)) (results_c Try.results6 _ _ _ _ _ rfl (run_loadVar_v _ _ _ _ Try.underlying24 24 (gc o i (lowN v)) HN4.out (by kernel_rfl))) rfl ⟨rfl, G3.out.b.trans (HB4.out.mono (by omega))⟩
theorem find_noneW (reg : Int) (b : Nat) (h0 : ((0 : Int) == reg) = false) (h2 : ((2 : Int) == reg) = false) : Instr.findNow (.int .i64) (.int .i64 reg) (wrs b).toList 0 = some none := by
  have e0 : ¬ reg = 0 := fun h => by subst h; cases h0
  have e2 : ¬ reg = 2 := fun h => by subst h; cases h2
  have f0 : (reg == (0 : Int)) = false := by simpa using e0
  have f2 : (reg == (2 : Int)) = false := by simpa using e2
  simp only [Instr.findNow, Instr.sameNow, f0, f2, if_true]
set_option maxRecDepth 100000 in
theorem writeN' (o i e : Nat) (reg : Int) (v : Int) (w : World) (h0 : reg ≠ 0) (h2 : reg ≠ 2) : Calls Try.prog 6 #[gv o i e, .int .i64 reg, .int .i32 v] w fun x w' => x = .returned (gv o i e) ∧ Below w.heap.size w w' := by
  have HR := Lib.hid (fun W => writers_any w.heap.size W)
  have n0 : ((0 : Int) == reg) = false := by simpa using fun h => h0 h.symm
  have n2 : ((2 : Int) == reg) = false := by simpa using fun h => h2 h.symm
  have HN0 := Lib.hid n0
  have HN2 := Lib.hid n2
  clear n0 n2 h0 h2
  unfold gv
  go_enter Try.func6, Try.ntmps6
  go_wp2_with (first
    | ((with_reducible show wpList _ _ _ (⟨none, .store 24 (.tmp 6) (.tmp 20), _, _, _, _⟩ :: _) _ _); refine wpList_store_v rfl 24 _ _ rfl (w.heap.size + 1) (by exact rfl) (gc o i e) (by exact rfl) (by kernel_rfl) (gc_one _ _ _) 24 _ G1.out.z rfl ?_; intro w4 HN4 HO4 HB4)
    | ((with_reducible show wpList _ _ _ (⟨some 20, .load 24 (.tmp 3), _, _, _, _⟩ :: _) _ _); refine wpList_load_g (by rfl) 24 _ rfl w.heap.size (by exact rfl) _ Try.underlying24 (by kernel_rfl) 24 _ _ _ G1.out.g ?_)
    | (go_at_call 17; refine (HR.out _).mono ?_; rintro x' w1 ⟨rfl, hw1⟩
       have G1 : Hid (Reg2 w w1 o i e) := Lib.hid (by
         subst hw1
         exact reg2_new w o i e _ rfl)
       have hl := run_look_none mtyW uInt w1 (w.heap.size + 1 + 1 + 1) _ _ G1.out.m reg _ (zwr _) (find_noneW reg _ HN0.out HN2.out)
       clear hw1))
  exact bodyPost_ret (v := gv o i e) (results_c Try.results6 _ _ _ _ _ rfl (run_loadVar_v _ _ _ _ Try.underlying24 24 (gc o i e) HN4.out (by kernel_rfl))) rfl ⟨rfl, G1.out.b.trans (HB4.out.mono (by omega))⟩
end Go.Proofs.Yticeeeomhdcffaa
