/-
  A function over one bank; the document's request, Write by their contracts. Made by wip/genbankref.py.
-/
import Derived.Test.YtkodoldkfeopdaaGreatB
namespace Go.Proofs.YtkodoldkfeopdaaGreat
open Go.RowKit
set_option linter.unusedVariables false
set_option maxRecDepth 100000
def bare : Bk := ⟨0, 0, 0, [], [], false, 0, 0, ⟨0, 0, 0⟩, ⟨0, 0, 0⟩, ⟨0, 0⟩⟩
theorem bare_ok : bare.ok := ⟨by decide, by decide, by decide, Ua.Rg.new, ⟨by decide, by decide, by decide⟩, ⟨by decide, by decide, by decide⟩, ⟨by decide, by decide⟩⟩
structure Tw (w W : World) (g r : Nat) (ty : TypeId) (b : Bk) : Prop where
  q : BRow W g ty b
  z : BRow W r ty bare
  b : Below w.heap.size w W
  lg : w.heap.size ≤ g
  lr : w.heap.size ≤ r
  gr : g ≠ r
section
variable {w W W' : World} {g r : Nat} {ty : TypeId} {b d : Bk}
theorem Tw.under (h : Tw w W g r ty b) (hb : Below W.heap.size W W') : Tw w W' g r ty b := ⟨h.q.below hb h.q.lt, h.z.below hb h.z.lt, h.b.trans (hb.mono h.b.size), h.lg, h.lr, h.gr⟩
theorem Tw.setG (h : Tw w W g r ty b) (hn : BRow W' g ty d) (ho : ∀ j, j ≠ g → W'.heap[j]? = W.heap[j]?) (hb : Below g W W') : Tw w W' g r ty d := ⟨hn, h.z.other ho h.gr.symm, h.b.trans (hb.mono h.lg), h.lg, h.lr, h.gr⟩
theorem Tw.new (ty : TypeId) (hq : W.heap[w.heap.size]? = some (.cells (bc b).toArray ty)) (hz : W.heap[w.heap.size + 1]? = some (.cells (bc bare).toArray ty)) (hB : Below w.heap.size w W) : Tw w W w.heap.size (w.heap.size + 1) ty b :=
  ⟨hq, hz, hB, Nat.le_refl _, by omega, by omega⟩
end
theorem pow_lt (n : Nat) (hn : n < 8) : 2 ^ n < 256 := Nat.pow_lt_pow_of_lt (a := 2) (n := n) (m := 8) (by decide) hn
theorem rReq_any (b : Bk) (n : Nat) (asks : Bool) (w : World) (h : b.ok) (hn : n < 8) :
    Calls Tryz.prog 31 #[bv b, .int .i64 (n : Int), .bool asks] w fun x w' => x = .returned (bv (askB b (2 ^ n) asks)) ∧ Below w.heap.size w w' := by
  have KQ0 := fun W => Iq.rRequest_any b.q (2 ^ n) W h.q (pow_lt n hn)
  have KQ : Hid (∀ W : World, Calls Tryz.prog 43 #[Iq.cv b.q, .int .u8 ((2 : Int) ^ n)] W fun x w' => x = .returned (Iq.cv (Iq.requestI b.q (2 ^ n))) ∧ Below W.heap.size W w') := Lib.hid (fun W => by
    have h1 := KQ0 W
    rw [show ((2 ^ n : Nat) : Int) = (2 : Int) ^ n from by simp] at h1
    exact h1)
  have HS := Lib.hid (Iq.shl_one n hn)
  clear KQ0
  cases asks
  · rw [show askB b (2 ^ n) false = b from if_neg (by decide)]
    unfold bv
    go_enter Tryz.func31, Tryz.ntmps31
    go_upto_region 1 with (fail)
    refine name_two (Q := fun X => Code.wp _ _ _ _ X) ?_
    intro W0 hq1 hq2 hB0
    have T0 : Hid (Tw w W0 w.heap.size (w.heap.size + 1) 46 b) := Lib.hid (Tw.new 46 hq1 hq2 hB0)
    clear hq1 hq2 hB0
    obtain ⟨g, hg⟩ : ∃ g, w.heap.size = g := ⟨_, rfl⟩
    obtain ⟨ra, hra⟩ : ∃ r, w.heap.size + 1 = r := ⟨_, rfl⟩
    rw [hra, hg] at T0 ⊢
    clear hra hg
    go_wp2_with (first
      | ((with_reducible show wpList _ _ _ (⟨none, .store 46 (.tmp 6) (.tmp 14), _, _, _, _⟩ :: _) _ _); refine wpList_store_b rfl 46 _ _ rfl ra (by exact rfl) (by exact rfl) (by kernel_rfl) 46 T0.out.z ?_; intro WZ HN HO HB
         have HZ := HN
         have BZ := Lib.hid (T0.out.b.trans (HB.out.mono T0.out.lr))
         clear HN HO HB)
      | ((with_reducible show wpList _ _ _ (⟨some 14, .load 46 (.tmp 3), _, _, _, _⟩ :: _) _ _); refine wpList_load_b (by rfl) 46 _ rfl g (by exact rfl) _ Tryz.underlying46 (by kernel_rfl) 46 T0.out.q ?_))
    exact bodyPost_ret (v := bv (b)) (results_c Tryz.results31 _ _ _ _ _ rfl (run_loadVar_b WZ ra 46 _ Tryz.underlying46 (by kernel_rfl) 46 HZ.out)) rfl ⟨rfl, BZ.out⟩
  · rw [show askB b (2 ^ n) true = { b with q := Iq.requestI b.q (2 ^ n) } from if_pos rfl]
    unfold bv
    go_enter Tryz.func31, Tryz.ntmps31
    go_upto_region 1 with (fail)
    refine name_two (Q := fun X => Code.wp _ _ _ _ X) ?_
    intro W0 hq1 hq2 hB0
    have T0 : Hid (Tw w W0 w.heap.size (w.heap.size + 1) 46 b) := Lib.hid (Tw.new 46 hq1 hq2 hB0)
    clear hq1 hq2 hB0
    obtain ⟨g, hg⟩ : ∃ g, w.heap.size = g := ⟨_, rfl⟩
    obtain ⟨ra, hra⟩ : ∃ r, w.heap.size + 1 = r := ⟨_, rfl⟩
    rw [hra, hg] at T0 ⊢
    clear hra hg
    go_upto_region 2 with fail
    refine wp_region_noPanic ?_
    refine wp_region_held_drew (S := fun X => Below w.heap.size w X) (by kernel_rfl) (T0.out.b.drew) (fun hHeld => ?_)
    have T1 := Lib.hid (T0.out.under ((Below.refl _ _).drew))
    clear T0
    obtain ⟨Y0, hY0⟩ : ∃ Y, W0.drew = Y := ⟨_, rfl⟩
    rw [hY0] at hHeld T1 ⊢
    clear hY0
    refine' take_ 0 rfl (by kernel_rfl) (by kernel_rfl) (by kernel_rfl) (fun _ _ _ h => h) (by rfl) (fun wS hSw => ?_) hHeld ?_
    rotate_left
    focus (go_simp; (try with_reducible rfl); done)
    try simp only [Act.put, List.setIfInBounds_toArray, List.set_cons_zero, List.set_cons_succ]
    refine' take_ 2 rfl (by kernel_rfl) (by kernel_rfl) (by kernel_rfl) (fun _ _ _ h => h) (by rfl) (fun wS hSw => ?_) hHeld ?_
    rotate_left
    focus (go_simp; (try with_reducible rfl); done)
    try simp only [Act.put, List.setIfInBounds_toArray, List.set_cons_zero, List.set_cons_succ]
    refine' take_ 3 rfl (by kernel_rfl) (by kernel_rfl) (by kernel_rfl) (fun _ _ _ h => h) (by rfl) (fun wS hSw => ?_) hHeld ?_
    rotate_left
    focus (go_simp; rw [HS.out]; (try with_reducible rfl); done)
    try simp only [Act.put, List.setIfInBounds_toArray, List.set_cons_zero, List.set_cons_succ]
    refine only_ 1 rfl (by kernel_rfl) (by rfl) (fun K hK => ?_)
    refine wp_of_run (Iq.cv b.q) (run_load_at Y0 44 (.tmp 8) g 30 rfl (Iq.icc b.q) _ T1.out.q.iq Tryz.underlying44 rfl (by kernel_rfl) _ _ _ _ _) (hK.out _ _ hHeld (fun hHeld2 => ?_))
    clear hK K hHeld
    have hHeld := hHeld2
    clear hHeld2
    try simp only [Act.put, List.setIfInBounds_toArray, List.set_cons_zero, List.set_cons_succ]
    refine only_ 4 rfl (by kernel_rfl) (by rfl) (fun K hK => ?_)
    go_simp
    with_reducible refine (KQ.out _).mono ?_
    rintro e Y1 ⟨rfl, hB⟩
    have T2 := Lib.hid (T1.out.under hB)
    go_simp
    refine hK.out _ _ T2.out.b (fun hHeld2 => ?_)
    clear hK K hHeld
    have hHeld := hHeld2
    clear hHeld2
    clear hB T1
    try simp only [Act.put, List.setIfInBounds_toArray, List.set_cons_zero, List.set_cons_succ]
    refine' take_ 5 rfl (by kernel_rfl) (by kernel_rfl) (by kernel_rfl) (fun _ _ _ h => h) (by rfl) (fun wS hSw => ?_) hHeld ?_
    rotate_left
    focus (go_simp; (try with_reducible rfl); done)
    try simp only [Act.put, List.setIfInBounds_toArray, List.set_cons_zero, List.set_cons_succ]
    refine only_ 6 rfl (by kernel_rfl) (by rfl) (fun K hK => ?_)
    refine wp_store_row rfl 44 _ _ rfl g 30 rfl (Iq.icc (Iq.requestI b.q (2 ^ n))) rfl (by kernel_rfl) (bc b) (bc { b with q := Iq.requestI b.q (2 ^ n) }) 46 T2.out.q (by rw [bc_length]; simp [Iq.icc]) (Iq.icc_one _) (bc_iq _) ?_
    have T3 := Lib.hid (T2.out.setG (d := { b with q := Iq.requestI b.q (2 ^ n) }) (VRow.set T2.out.q _) (fun k hk => setRow_other _ g k _ hk) (setRow_below (Below.refl _ _) (Nat.le_refl _) _))
    refine hK.out _ _ (T3.out.b) (fun hHeld2 => ?_)
    clear hK K hHeld T2
    generalize World.setRow _ _ _ = Y2 at *
    try simp only [Act.put]
    refine wpAnyH_done (by kernel_rfl) ?_ _
    refine NoPanic.normal ?_
    go_wp2_with (first
      | ((with_reducible show wpList _ _ _ (⟨none, .store 46 (.tmp 6) (.tmp 14), _, _, _, _⟩ :: _) _ _); refine wpList_store_b rfl 46 _ _ rfl ra (by exact rfl) (by exact rfl) (by kernel_rfl) 46 T3.out.z ?_; intro WZ HN HO HB
         have HZ := HN
         have BZ := Lib.hid (T3.out.b.trans (HB.out.mono T3.out.lr))
         clear HN HO HB)
      | ((with_reducible show wpList _ _ _ (⟨some 14, .load 46 (.tmp 3), _, _, _, _⟩ :: _) _ _); refine wpList_load_b (by rfl) 46 _ rfl g (by exact rfl) _ Tryz.underlying46 (by kernel_rfl) 46 T3.out.q ?_))
    exact bodyPost_ret (v := bv ({ b with q := Iq.requestI b.q (2 ^ n) })) (results_c Tryz.results31 _ _ _ _ _ rfl (run_loadVar_b WZ ra 46 _ Tryz.underlying46 (by kernel_rfl) 46 HZ.out)) rfl ⟨rfl, BZ.out⟩
end Go.Proofs.YtkodoldkfeopdaaGreat
