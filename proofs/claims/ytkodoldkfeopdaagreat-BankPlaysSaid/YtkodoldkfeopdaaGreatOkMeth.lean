/-
  What is written to a device. Made by wip/genbankok.py.
-/
import Derived.Test.YtkodoldkfeopdaaGreatOkDev
namespace Go.Proofs.YtkodoldkfeopdaaGreat
open Go.RowKit
set_option linter.unusedVariables false
set_option maxRecDepth 100000
/-- What a device's method changes. -/
structure Wrt (X W : World) (g : Nat) (ty : TypeId) (d : Bk) : Prop where
  q : BRow W g ty d
  o : ∀ j, j < X.heap.size → j ≠ g → W.heap[j]? = X.heap[j]?
  b : Below g X W
  n : X.heap.size ≤ W.heap.size
/-- A device, its bank, on the way. -/
structure Dv (X W : World) (p g : Nat) (T ty : TypeId) (cs : List Value) (b : Bk) : Prop where
  hp : VRow W p T cs
  q : BRow W g ty b
  b : Below X.heap.size X W
  lp : p = X.heap.size
  lg : g < X.heap.size
theorem Dv.under {X W W' : World} {p g : Nat} {T ty : TypeId} {cs : List Value} {b : Bk} (h : Dv X W p g T ty cs b) (hb : Below W.heap.size W W') : Dv X W' p g T ty cs b :=
  ⟨VRow.below h.hp hb (VRow.lt h.hp), h.q.below hb h.q.lt, h.b.trans (hb.mono h.b.size), h.lp, h.lg⟩
theorem Dv.wrt {X W W' : World} {p g : Nat} {T ty : TypeId} {cs : List Value} {b d : Bk} (h : Dv X W p g T ty cs b) (hq : BRow W' g ty d) (ho : ∀ j, j ≠ g → W'.heap[j]? = W.heap[j]?) (hb : Below g W W') : Wrt X W' g ty d :=
  ⟨hq, fun j hj hg => (ho j hg).trans (h.b.block j hj), (h.b.mono (Nat.le_of_lt h.lg)).trans hb, Nat.le_trans h.b.size hb.size⟩
theorem VRow.c {W : World} {p : Nat} {T : TypeId} {cs : List Value} (h : VRow W p T cs) (j : Nat) (v : Value) (hj : cs[j]? = some v) : W.cell? ⟨p, j, none⟩ = some v := by
  have h1 := row_cells h j v hj
  rw [Nat.zero_add] at h1
  exact h1
theorem write_pins (b : Bk) (r v : Int) (X : World) (g : Nat) (ty : TypeId) (fv : Value) (hfv : fv.oneCell' = true) (h : b.ok) (h0 : -9223372036854775808 ≤ r) (h1 : r ≤ 9223372036854775807) (h2 : -2147483648 ≤ v) (h3 : v ≤ 2147483647) (hr : BRow X g ty b) :
    Calls Tryz.prog 106 #[.agg #[fv, .pointer (some ⟨g, 0, none⟩)], .int .i64 r, .int .i32 v] X fun x w' => x = .returned (.tuple #[]) ∧ Wrt X w' g ty { b with o := Gp.outN b.o r v, e := Gp.edgeN b.e r v } := by
  have KK : Hid (∀ W : World, Calls Tryz.prog 107 #[.agg ((Gp.gc b.o b.i b.e)).toArray, .int .i64 r, .int .i32 v] W fun x w' => x = .returned (.agg ((Gp.gc (Gp.outN b.o r v) b.i (Gp.edgeN b.e r v))).toArray) ∧ Below W.heap.size W w') := Lib.hid (fun W => Gp.gpio_ok.write b.o b.i b.e r v W h.o h.i h.e h0 h1 h2 h3)
  have R0 := Lib.hid hr
  clear hr
  go_enter Tryz.func106, Tryz.ntmps106
  go_upto_region 1 with fail
  refine name_one (Q := fun X => Code.wp _ _ _ _ X) ?_
  intro W0 hq1 hB0 hz0
  have T0 : Hid (Dv X W0 X.heap.size g 141 ty [fv, .pointer (some ⟨g, 0, none⟩)] b) := Lib.hid ⟨hq1, R0.out.below hB0 R0.out.lt, hB0, rfl, R0.out.lt⟩
  clear hq1 hB0 hz0 R0
  go_upto_region 2 with fail
  refine wp_region_noPanic ?_
  refine wp_region_held_drew (S := fun Y => VRow Y X.heap.size 141 [fv, .pointer (some ⟨g, 0, none⟩)]) (by kernel_rfl) (T0.out.under (Below.refl _ _).drew).hp (fun hHeld => ?_)
  have T1 := Lib.hid (T0.out.under ((Below.refl _ _).drew))
  clear T0
  obtain ⟨Y0, hY0⟩ : ∃ Y, W0.drew = Y := ⟨_, rfl⟩
  rw [hY0] at hHeld T1 ⊢
  clear hY0
  refine' take_ 0 rfl (by kernel_rfl) (by kernel_rfl) (by kernel_rfl) (fun _ _ _ h => h) (by rfl) (fun wS hSw => ?_) hHeld ?_
  rotate_left
  focus (go_simp; (try with_reducible rfl); done)
  try simp only [Act.put, List.setIfInBounds_toArray, List.set_cons_zero, List.set_cons_succ]
  refine' take_ 1 rfl (by kernel_rfl) (by kernel_rfl) (by kernel_rfl) (fun _ _ _ h => h) (by rfl) (fun wS hSw => ?_) hHeld ?_
  rotate_left
  focus (have hb := hSw.c 1 _ rfl; go_simp; (try with_reducible rfl); done)
  try simp only [Act.put, List.setIfInBounds_toArray, List.set_cons_zero, List.set_cons_succ]
  refine' take_ 2 rfl (by kernel_rfl) (by kernel_rfl) (by kernel_rfl) (fun _ _ _ h => h) (by rfl) (fun wS hSw => ?_) hHeld ?_
  rotate_left
  focus (go_simp; (try with_reducible rfl); done)
  try simp only [Act.put, List.setIfInBounds_toArray, List.set_cons_zero, List.set_cons_succ]
  refine' take_ 3 rfl (by kernel_rfl) (by kernel_rfl) (by kernel_rfl) (fun _ _ _ h => h) (by rfl) (fun wS hSw => ?_) hHeld ?_
  rotate_left
  focus (have hb := hSw.c 1 _ rfl; go_simp; (try with_reducible rfl); done)
  try simp only [Act.put, List.setIfInBounds_toArray, List.set_cons_zero, List.set_cons_succ]
  refine' take_ 4 rfl (by kernel_rfl) (by kernel_rfl) (by kernel_rfl) (fun _ _ _ h => h) (by rfl) (fun wS hSw => ?_) hHeld ?_
  rotate_left
  focus (go_simp; (try with_reducible rfl); done)
  try simp only [Act.put, List.setIfInBounds_toArray, List.set_cons_zero, List.set_cons_succ]
  refine' take_ 6 rfl (by kernel_rfl) (by kernel_rfl) (by kernel_rfl) (fun _ _ _ h => h) (by rfl) (fun wS hSw => ?_) hHeld ?_
  rotate_left
  focus (go_simp; (try with_reducible rfl); done)
  try simp only [Act.put, List.setIfInBounds_toArray, List.set_cons_zero, List.set_cons_succ]
  refine' take_ 7 rfl (by kernel_rfl) (by kernel_rfl) (by kernel_rfl) (fun _ _ _ h => h) (by rfl) (fun wS hSw => ?_) hHeld ?_
  rotate_left
  focus (go_simp; (try with_reducible rfl); done)
  try simp only [Act.put, List.setIfInBounds_toArray, List.set_cons_zero, List.set_cons_succ]
  refine only_ 5 rfl (by kernel_rfl) (by rfl) (fun K hK => ?_)
  refine wp_of_run (.agg ((Gp.gc b.o b.i b.e)).toArray) (run_load_at _ 24 (.tmp 10) g 0 rfl (Gp.gc b.o b.i b.e) _ T1.out.q.gp Tryz.underlying24 rfl (by kernel_rfl) _ _ _ _ _) (hK.out _ _ hHeld (fun hHeld2 => ?_))
  clear hK K hHeld
  have hHeld := hHeld2
  clear hHeld2
  try simp only [Act.put, List.setIfInBounds_toArray, List.set_cons_zero, List.set_cons_succ]
  refine only_ 8 rfl (by kernel_rfl) (by rfl) (fun K hK => ?_)
  go_simp
  with_reducible refine (KK.out _).mono ?_
  rintro e Y1 ⟨rfl, hB⟩
  have T2 := Lib.hid (T1.out.under hB)
  go_simp
  refine hK.out _ _ T2.out.hp (fun hHeld2 => ?_)
  clear hK K hHeld hB T1
  have hHeld := hHeld2
  clear hHeld2
  try simp only [Act.put, List.setIfInBounds_toArray, List.set_cons_zero, List.set_cons_succ]
  refine' take_ 9 rfl (by kernel_rfl) (by kernel_rfl) (by kernel_rfl) (fun _ _ _ h => h) (by rfl) (fun wS hSw => ?_) hHeld ?_
  rotate_left
  focus (go_simp; (try with_reducible rfl); done)
  try simp only [Act.put, List.setIfInBounds_toArray, List.set_cons_zero, List.set_cons_succ]
  refine only_ 10 rfl (by kernel_rfl) (by rfl) (fun K hK => ?_)
  refine wp_store_row rfl 24 _ _ rfl g 0 rfl (Gp.gc (Gp.outN b.o r v) b.i (Gp.edgeN b.e r v)) rfl (by kernel_rfl) (bc b) (bc { b with o := Gp.outN b.o r v, e := Gp.edgeN b.e r v }) ty T2.out.q (by rw [bc_length]; simp [Gp.gc]) (Gp.gc_one _ _ _) (bc_gp _ _ _) ?_
  have T3 := Lib.hid (T2.out.wrt (d := { b with o := Gp.outN b.o r v, e := Gp.edgeN b.e r v }) (VRow.set T2.out.q _) (fun k hk => setRow_other _ g k _ hk) (setRow_below (Below.refl _ _) (Nat.le_refl _) _))
  refine hK.out _ _ (VRow.oth T2.out.hp (fun k hk => setRow_other _ g k _ hk) (Nat.ne_of_gt T2.out.lg)) (fun hHeld2 => ?_)
  clear hK K hHeld hHeld2 T2
  generalize World.setRow _ _ _ = Y2 at *
  try simp only [Act.put]
  refine wpAnyH_done (by kernel_rfl) ?_ _
  refine NoPanic.normal ?_
  go_wp2
  go_end0
  exact ⟨rfl, T3.out⟩
theorem write_serial (b : Bk) (r v : Int) (X : World) (g : Nat) (ty : TypeId) (fv : Value) (hfv : fv.oneCell' = true) (h : b.ok) (h0 : -9223372036854775808 ≤ r) (h1 : r ≤ 9223372036854775807) (h2 : -2147483648 ≤ v) (h3 : v ≤ 2147483647) (hr : BRow X g ty b) :
    Calls Tryz.prog 112 #[.agg #[fv, .pointer (some ⟨g, 3, none⟩)], .int .i64 r, .int .i32 v] X fun x w' => x = .returned (.tuple #[]) ∧ Wrt X w' g ty { b with T := Ua.writeT b.T r v, c := Ua.writeC b.c r v } := by
  have KK : Hid (∀ W : World, Calls Tryz.prog 113 #[.agg ((ucs b)).toArray, .int .i64 r, .int .i32 v] W fun x w' => x = .returned (.agg ((ucs { b with T := Ua.writeT b.T r v, c := Ua.writeC b.c r v })).toArray) ∧ Below W.heap.size W w') := Lib.hid (fun W => Ua.ru_write (l := b.l) Ua.uart_ok.write W h.u r v h0 h1 h2 h3)
  have R0 := Lib.hid hr
  clear hr
  go_enter Tryz.func112, Tryz.ntmps112
  go_upto_region 1 with fail
  refine name_one (Q := fun X => Code.wp _ _ _ _ X) ?_
  intro W0 hq1 hB0 hz0
  have T0 : Hid (Dv X W0 X.heap.size g 145 ty [fv, .pointer (some ⟨g, 3, none⟩)] b) := Lib.hid ⟨hq1, R0.out.below hB0 R0.out.lt, hB0, rfl, R0.out.lt⟩
  clear hq1 hB0 hz0 R0
  go_upto_region 2 with fail
  refine wp_region_noPanic ?_
  refine wp_region_held_drew (S := fun Y => VRow Y X.heap.size 145 [fv, .pointer (some ⟨g, 3, none⟩)]) (by kernel_rfl) (T0.out.under (Below.refl _ _).drew).hp (fun hHeld => ?_)
  have T1 := Lib.hid (T0.out.under ((Below.refl _ _).drew))
  clear T0
  obtain ⟨Y0, hY0⟩ : ∃ Y, W0.drew = Y := ⟨_, rfl⟩
  rw [hY0] at hHeld T1 ⊢
  clear hY0
  refine' take_ 0 rfl (by kernel_rfl) (by kernel_rfl) (by kernel_rfl) (fun _ _ _ h => h) (by rfl) (fun wS hSw => ?_) hHeld ?_
  rotate_left
  focus (go_simp; (try with_reducible rfl); done)
  try simp only [Act.put, List.setIfInBounds_toArray, List.set_cons_zero, List.set_cons_succ]
  refine' take_ 1 rfl (by kernel_rfl) (by kernel_rfl) (by kernel_rfl) (fun _ _ _ h => h) (by rfl) (fun wS hSw => ?_) hHeld ?_
  rotate_left
  focus (have hb := hSw.c 1 _ rfl; go_simp; (try with_reducible rfl); done)
  try simp only [Act.put, List.setIfInBounds_toArray, List.set_cons_zero, List.set_cons_succ]
  refine' take_ 2 rfl (by kernel_rfl) (by kernel_rfl) (by kernel_rfl) (fun _ _ _ h => h) (by rfl) (fun wS hSw => ?_) hHeld ?_
  rotate_left
  focus (go_simp; (try with_reducible rfl); done)
  try simp only [Act.put, List.setIfInBounds_toArray, List.set_cons_zero, List.set_cons_succ]
  refine' take_ 3 rfl (by kernel_rfl) (by kernel_rfl) (by kernel_rfl) (fun _ _ _ h => h) (by rfl) (fun wS hSw => ?_) hHeld ?_
  rotate_left
  focus (have hb := hSw.c 1 _ rfl; go_simp; (try with_reducible rfl); done)
  try simp only [Act.put, List.setIfInBounds_toArray, List.set_cons_zero, List.set_cons_succ]
  refine' take_ 4 rfl (by kernel_rfl) (by kernel_rfl) (by kernel_rfl) (fun _ _ _ h => h) (by rfl) (fun wS hSw => ?_) hHeld ?_
  rotate_left
  focus (go_simp; (try with_reducible rfl); done)
  try simp only [Act.put, List.setIfInBounds_toArray, List.set_cons_zero, List.set_cons_succ]
  refine' take_ 6 rfl (by kernel_rfl) (by kernel_rfl) (by kernel_rfl) (fun _ _ _ h => h) (by rfl) (fun wS hSw => ?_) hHeld ?_
  rotate_left
  focus (go_simp; (try with_reducible rfl); done)
  try simp only [Act.put, List.setIfInBounds_toArray, List.set_cons_zero, List.set_cons_succ]
  refine' take_ 7 rfl (by kernel_rfl) (by kernel_rfl) (by kernel_rfl) (fun _ _ _ h => h) (by rfl) (fun wS hSw => ?_) hHeld ?_
  rotate_left
  focus (go_simp; (try with_reducible rfl); done)
  try simp only [Act.put, List.setIfInBounds_toArray, List.set_cons_zero, List.set_cons_succ]
  refine only_ 5 rfl (by kernel_rfl) (by rfl) (fun K hK => ?_)
  refine wp_of_run (.agg ((ucs b)).toArray) (run_load_at _ 29 (.tmp 10) g 3 rfl (ucs b) _ T1.out.q.ua Tryz.underlying29 rfl (by rw [ucs_length]; kernel_rfl) _ _ _ _ _) (hK.out _ _ hHeld (fun hHeld2 => ?_))
  clear hK K hHeld
  have hHeld := hHeld2
  clear hHeld2
  try simp only [Act.put, List.setIfInBounds_toArray, List.set_cons_zero, List.set_cons_succ]
  refine only_ 8 rfl (by kernel_rfl) (by rfl) (fun K hK => ?_)
  go_simp
  with_reducible refine (KK.out _).mono ?_
  rintro e Y1 ⟨rfl, hB⟩
  have T2 := Lib.hid (T1.out.under hB)
  go_simp
  refine hK.out _ _ T2.out.hp (fun hHeld2 => ?_)
  clear hK K hHeld hB T1
  have hHeld := hHeld2
  clear hHeld2
  try simp only [Act.put, List.setIfInBounds_toArray, List.set_cons_zero, List.set_cons_succ]
  refine' take_ 9 rfl (by kernel_rfl) (by kernel_rfl) (by kernel_rfl) (fun _ _ _ h => h) (by rfl) (fun wS hSw => ?_) hHeld ?_
  rotate_left
  focus (go_simp; (try with_reducible rfl); done)
  try simp only [Act.put, List.setIfInBounds_toArray, List.set_cons_zero, List.set_cons_succ]
  refine only_ 10 rfl (by kernel_rfl) (by rfl) (fun K hK => ?_)
  refine wp_store_row rfl 29 _ _ rfl g 3 rfl (ucs { b with T := Ua.writeT b.T r v, c := Ua.writeC b.c r v }) rfl (by rw [ucs_length]; kernel_rfl) (bc b) (bc { b with T := Ua.writeT b.T r v, c := Ua.writeC b.c r v }) ty T2.out.q (by rw [bc_length, ucs_length]; decide) (Ua.uc_one _ _ _ _ _ _ _) (bc_ua _ _ _ _ _) ?_
  have T3 := Lib.hid (T2.out.wrt (d := { b with T := Ua.writeT b.T r v, c := Ua.writeC b.c r v }) (VRow.set T2.out.q _) (fun k hk => setRow_other _ g k _ hk) (setRow_below (Below.refl _ _) (Nat.le_refl _) _))
  refine hK.out _ _ (VRow.oth T2.out.hp (fun k hk => setRow_other _ g k _ hk) (Nat.ne_of_gt T2.out.lg)) (fun hHeld2 => ?_)
  clear hK K hHeld hHeld2 T2
  generalize World.setRow _ _ _ = Y2 at *
  try simp only [Act.put]
  refine wpAnyH_done (by kernel_rfl) ?_ _
  refine NoPanic.normal ?_
  go_wp2
  go_end0
  exact ⟨rfl, T3.out⟩
theorem write_controller (b : Bk) (r v : Int) (X : World) (g : Nat) (ty : TypeId) (fv : Value) (hfv : fv.oneCell' = true) (h : b.ok) (h0 : -9223372036854775808 ≤ r) (h1 : r ≤ 9223372036854775807) (h2 : -2147483648 ≤ v) (h3 : v ≤ 2147483647) (hr : BRow X g ty b) :
    Calls Tryz.prog 117 #[.agg #[fv, .pointer (some ⟨g, 30, none⟩)], .int .i64 r, .int .i32 v] X fun x w' => x = .returned (.tuple #[]) ∧ Wrt X w' g ty { b with q := Iq.writeI b.q r v } := by
  have KK : Hid (∀ W : World, Calls Tryz.prog 118 #[.agg ((Iq.icc b.q)).toArray, .int .i64 r, .int .i32 v] W fun x w' => x = .returned (.agg ((Iq.icc (Iq.writeI b.q r v))).toArray) ∧ Below W.heap.size W w') := Lib.hid (fun W => Iq.write_any b.q r v W h.q h0 h1 h2 h3)
  have R0 := Lib.hid hr
  clear hr
  go_enter Tryz.func117, Tryz.ntmps117
  go_upto_region 1 with fail
  refine name_one (Q := fun X => Code.wp _ _ _ _ X) ?_
  intro W0 hq1 hB0 hz0
  have T0 : Hid (Dv X W0 X.heap.size g 151 ty [fv, .pointer (some ⟨g, 30, none⟩)] b) := Lib.hid ⟨hq1, R0.out.below hB0 R0.out.lt, hB0, rfl, R0.out.lt⟩
  clear hq1 hB0 hz0 R0
  go_upto_region 2 with fail
  refine wp_region_noPanic ?_
  refine wp_region_held_drew (S := fun Y => VRow Y X.heap.size 151 [fv, .pointer (some ⟨g, 30, none⟩)]) (by kernel_rfl) (T0.out.under (Below.refl _ _).drew).hp (fun hHeld => ?_)
  have T1 := Lib.hid (T0.out.under ((Below.refl _ _).drew))
  clear T0
  obtain ⟨Y0, hY0⟩ : ∃ Y, W0.drew = Y := ⟨_, rfl⟩
  rw [hY0] at hHeld T1 ⊢
  clear hY0
  refine' take_ 0 rfl (by kernel_rfl) (by kernel_rfl) (by kernel_rfl) (fun _ _ _ h => h) (by rfl) (fun wS hSw => ?_) hHeld ?_
  rotate_left
  focus (go_simp; (try with_reducible rfl); done)
  try simp only [Act.put, List.setIfInBounds_toArray, List.set_cons_zero, List.set_cons_succ]
  refine' take_ 1 rfl (by kernel_rfl) (by kernel_rfl) (by kernel_rfl) (fun _ _ _ h => h) (by rfl) (fun wS hSw => ?_) hHeld ?_
  rotate_left
  focus (have hb := hSw.c 1 _ rfl; go_simp; (try with_reducible rfl); done)
  try simp only [Act.put, List.setIfInBounds_toArray, List.set_cons_zero, List.set_cons_succ]
  refine' take_ 2 rfl (by kernel_rfl) (by kernel_rfl) (by kernel_rfl) (fun _ _ _ h => h) (by rfl) (fun wS hSw => ?_) hHeld ?_
  rotate_left
  focus (go_simp; (try with_reducible rfl); done)
  try simp only [Act.put, List.setIfInBounds_toArray, List.set_cons_zero, List.set_cons_succ]
  refine' take_ 3 rfl (by kernel_rfl) (by kernel_rfl) (by kernel_rfl) (fun _ _ _ h => h) (by rfl) (fun wS hSw => ?_) hHeld ?_
  rotate_left
  focus (have hb := hSw.c 1 _ rfl; go_simp; (try with_reducible rfl); done)
  try simp only [Act.put, List.setIfInBounds_toArray, List.set_cons_zero, List.set_cons_succ]
  refine' take_ 4 rfl (by kernel_rfl) (by kernel_rfl) (by kernel_rfl) (fun _ _ _ h => h) (by rfl) (fun wS hSw => ?_) hHeld ?_
  rotate_left
  focus (go_simp; (try with_reducible rfl); done)
  try simp only [Act.put, List.setIfInBounds_toArray, List.set_cons_zero, List.set_cons_succ]
  refine' take_ 6 rfl (by kernel_rfl) (by kernel_rfl) (by kernel_rfl) (fun _ _ _ h => h) (by rfl) (fun wS hSw => ?_) hHeld ?_
  rotate_left
  focus (go_simp; (try with_reducible rfl); done)
  try simp only [Act.put, List.setIfInBounds_toArray, List.set_cons_zero, List.set_cons_succ]
  refine' take_ 7 rfl (by kernel_rfl) (by kernel_rfl) (by kernel_rfl) (fun _ _ _ h => h) (by rfl) (fun wS hSw => ?_) hHeld ?_
  rotate_left
  focus (go_simp; (try with_reducible rfl); done)
  try simp only [Act.put, List.setIfInBounds_toArray, List.set_cons_zero, List.set_cons_succ]
  refine only_ 5 rfl (by kernel_rfl) (by rfl) (fun K hK => ?_)
  refine wp_of_run (.agg ((Iq.icc b.q)).toArray) (run_load_at _ 35 (.tmp 10) g 30 rfl (Iq.icc b.q) _ T1.out.q.iq Tryz.underlying35 rfl (by kernel_rfl) _ _ _ _ _) (hK.out _ _ hHeld (fun hHeld2 => ?_))
  clear hK K hHeld
  have hHeld := hHeld2
  clear hHeld2
  try simp only [Act.put, List.setIfInBounds_toArray, List.set_cons_zero, List.set_cons_succ]
  refine only_ 8 rfl (by kernel_rfl) (by rfl) (fun K hK => ?_)
  go_simp
  with_reducible refine (KK.out _).mono ?_
  rintro e Y1 ⟨rfl, hB⟩
  have T2 := Lib.hid (T1.out.under hB)
  go_simp
  refine hK.out _ _ T2.out.hp (fun hHeld2 => ?_)
  clear hK K hHeld hB T1
  have hHeld := hHeld2
  clear hHeld2
  try simp only [Act.put, List.setIfInBounds_toArray, List.set_cons_zero, List.set_cons_succ]
  refine' take_ 9 rfl (by kernel_rfl) (by kernel_rfl) (by kernel_rfl) (fun _ _ _ h => h) (by rfl) (fun wS hSw => ?_) hHeld ?_
  rotate_left
  focus (go_simp; (try with_reducible rfl); done)
  try simp only [Act.put, List.setIfInBounds_toArray, List.set_cons_zero, List.set_cons_succ]
  refine only_ 10 rfl (by kernel_rfl) (by rfl) (fun K hK => ?_)
  refine wp_store_row rfl 35 _ _ rfl g 30 rfl (Iq.icc (Iq.writeI b.q r v)) rfl (by kernel_rfl) (bc b) (bc { b with q := Iq.writeI b.q r v }) ty T2.out.q (by rw [bc_length]; simp [Iq.icc]) (Iq.icc_one _) (bc_iq _) ?_
  have T3 := Lib.hid (T2.out.wrt (d := { b with q := Iq.writeI b.q r v }) (VRow.set T2.out.q _) (fun k hk => setRow_other _ g k _ hk) (setRow_below (Below.refl _ _) (Nat.le_refl _) _))
  refine hK.out _ _ (VRow.oth T2.out.hp (fun k hk => setRow_other _ g k _ hk) (Nat.ne_of_gt T2.out.lg)) (fun hHeld2 => ?_)
  clear hK K hHeld hHeld2 T2
  generalize World.setRow _ _ _ = Y2 at *
  try simp only [Act.put]
  refine wpAnyH_done (by kernel_rfl) ?_ _
  refine NoPanic.normal ?_
  go_wp2
  go_end0
  exact ⟨rfl, T3.out⟩
theorem write_counter0 (b : Bk) (r v : Int) (X : World) (g : Nat) (ty : TypeId) (fv : Value) (hfv : fv.oneCell' = true) (first q : Int) (hq : IntKind.i64.wrap (r - first) = q) (h : b.ok) (h0 : -9223372036854775808 ≤ q) (h1 : q ≤ 9223372036854775807) (h2 : -2147483648 ≤ v) (h3 : v ≤ 2147483647) (hr : BRow X g ty b) :
    Calls Tryz.prog 119 #[.agg #[fv, .pointer (some ⟨g, 24, none⟩), .int .i64 first], .int .i64 r, .int .i32 v] X fun x w' => x = .returned (.tuple #[]) ∧ Wrt X w' g ty { b with t0 := Ti.writeT b.t0 q v } := by
  have KK : Hid (∀ W : World, Calls Tryz.prog 120 #[.agg ((Ti.tc b.t0)).toArray, .int .i64 q, .int .i32 v] W fun x w' => x = .returned (.agg ((Ti.tc (Ti.writeT b.t0 q v))).toArray) ∧ Below W.heap.size W w') := Lib.hid (fun W => Ti.timer_ok.write b.t0 q v W h.t0 h0 h1 h2 h3)
  have HQ := Lib.hid hq
  clear hq
  have R0 := Lib.hid hr
  clear hr
  go_enter Tryz.func119, Tryz.ntmps119
  go_upto_region 1 with fail
  refine name_one (Q := fun X => Code.wp _ _ _ _ X) ?_
  intro W0 hq1 hB0 hz0
  have T0 : Hid (Dv X W0 X.heap.size g 160 ty [fv, .pointer (some ⟨g, 24, none⟩), .int .i64 first] b) := Lib.hid ⟨hq1, R0.out.below hB0 R0.out.lt, hB0, rfl, R0.out.lt⟩
  clear hq1 hB0 hz0 R0
  go_upto_region 2 with fail
  refine wp_region_noPanic ?_
  refine wp_region_held_drew (S := fun Y => VRow Y X.heap.size 160 [fv, .pointer (some ⟨g, 24, none⟩), .int .i64 first]) (by kernel_rfl) (T0.out.under (Below.refl _ _).drew).hp (fun hHeld => ?_)
  have T1 := Lib.hid (T0.out.under ((Below.refl _ _).drew))
  clear T0
  obtain ⟨Y0, hY0⟩ : ∃ Y, W0.drew = Y := ⟨_, rfl⟩
  rw [hY0] at hHeld T1 ⊢
  clear hY0
  refine' take_ 0 rfl (by kernel_rfl) (by kernel_rfl) (by kernel_rfl) (fun _ _ _ h => h) (by rfl) (fun wS hSw => ?_) hHeld ?_
  rotate_left
  focus (go_simp; (try with_reducible rfl); done)
  try simp only [Act.put, List.setIfInBounds_toArray, List.set_cons_zero, List.set_cons_succ]
  refine' take_ 1 rfl (by kernel_rfl) (by kernel_rfl) (by kernel_rfl) (fun _ _ _ h => h) (by rfl) (fun wS hSw => ?_) hHeld ?_
  rotate_left
  focus (have hb := hSw.c 1 _ rfl; go_simp; (try with_reducible rfl); done)
  try simp only [Act.put, List.setIfInBounds_toArray, List.set_cons_zero, List.set_cons_succ]
  refine' take_ 2 rfl (by kernel_rfl) (by kernel_rfl) (by kernel_rfl) (fun _ _ _ h => h) (by rfl) (fun wS hSw => ?_) hHeld ?_
  rotate_left
  focus (go_simp; (try with_reducible rfl); done)
  try simp only [Act.put, List.setIfInBounds_toArray, List.set_cons_zero, List.set_cons_succ]
  refine' take_ 3 rfl (by kernel_rfl) (by kernel_rfl) (by kernel_rfl) (fun _ _ _ h => h) (by rfl) (fun wS hSw => ?_) hHeld ?_
  rotate_left
  focus (have hb := hSw.c 1 _ rfl; go_simp; (try with_reducible rfl); done)
  try simp only [Act.put, List.setIfInBounds_toArray, List.set_cons_zero, List.set_cons_succ]
  refine' take_ 4 rfl (by kernel_rfl) (by kernel_rfl) (by kernel_rfl) (fun _ _ _ h => h) (by rfl) (fun wS hSw => ?_) hHeld ?_
  rotate_left
  focus (go_simp; (try with_reducible rfl); done)
  try simp only [Act.put, List.setIfInBounds_toArray, List.set_cons_zero, List.set_cons_succ]
  refine' take_ 6 rfl (by kernel_rfl) (by kernel_rfl) (by kernel_rfl) (fun _ _ _ h => h) (by rfl) (fun wS hSw => ?_) hHeld ?_
  rotate_left
  focus (go_simp; (try with_reducible rfl); done)
  try simp only [Act.put, List.setIfInBounds_toArray, List.set_cons_zero, List.set_cons_succ]
  refine' take_ 7 rfl (by kernel_rfl) (by kernel_rfl) (by kernel_rfl) (fun _ _ _ h => h) (by rfl) (fun wS hSw => ?_) hHeld ?_
  rotate_left
  focus (go_simp; (try with_reducible rfl); done)
  try simp only [Act.put, List.setIfInBounds_toArray, List.set_cons_zero, List.set_cons_succ]
  refine' take_ 8 rfl (by kernel_rfl) (by kernel_rfl) (by kernel_rfl) (fun _ _ _ h => h) (by rfl) (fun wS hSw => ?_) hHeld ?_
  rotate_left
  focus (have hb := hSw.c 2 _ rfl; go_simp; (try with_reducible rfl); done)
  try simp only [Act.put, List.setIfInBounds_toArray, List.set_cons_zero, List.set_cons_succ]
  refine' take_ 9 rfl (by kernel_rfl) (by kernel_rfl) (by kernel_rfl) (fun _ _ _ h => h) (by rfl) (fun wS hSw => ?_) hHeld ?_
  rotate_left
  focus (go_simp; rw [HQ.out]; (try with_reducible rfl); done)
  try simp only [Act.put, List.setIfInBounds_toArray, List.set_cons_zero, List.set_cons_succ]
  refine' take_ 10 rfl (by kernel_rfl) (by kernel_rfl) (by kernel_rfl) (fun _ _ _ h => h) (by rfl) (fun wS hSw => ?_) hHeld ?_
  rotate_left
  focus (go_simp; (try with_reducible rfl); done)
  try simp only [Act.put, List.setIfInBounds_toArray, List.set_cons_zero, List.set_cons_succ]
  refine only_ 5 rfl (by kernel_rfl) (by rfl) (fun K hK => ?_)
  refine wp_of_run (.agg ((Ti.tc b.t0)).toArray) (run_load_at _ 32 (.tmp 10) g 24 rfl (Ti.tc b.t0) _ T1.out.q.ta Tryz.underlying32 rfl (by kernel_rfl) _ _ _ _ _) (hK.out _ _ hHeld (fun hHeld2 => ?_))
  clear hK K hHeld
  have hHeld := hHeld2
  clear hHeld2
  try simp only [Act.put, List.setIfInBounds_toArray, List.set_cons_zero, List.set_cons_succ]
  refine only_ 11 rfl (by kernel_rfl) (by rfl) (fun K hK => ?_)
  go_simp
  with_reducible refine (KK.out _).mono ?_
  rintro e Y1 ⟨rfl, hB⟩
  have T2 := Lib.hid (T1.out.under hB)
  go_simp
  refine hK.out _ _ T2.out.hp (fun hHeld2 => ?_)
  clear hK K hHeld hB T1
  have hHeld := hHeld2
  clear hHeld2
  try simp only [Act.put, List.setIfInBounds_toArray, List.set_cons_zero, List.set_cons_succ]
  refine' take_ 12 rfl (by kernel_rfl) (by kernel_rfl) (by kernel_rfl) (fun _ _ _ h => h) (by rfl) (fun wS hSw => ?_) hHeld ?_
  rotate_left
  focus (go_simp; (try with_reducible rfl); done)
  try simp only [Act.put, List.setIfInBounds_toArray, List.set_cons_zero, List.set_cons_succ]
  refine only_ 13 rfl (by kernel_rfl) (by rfl) (fun K hK => ?_)
  refine wp_store_row rfl 32 _ _ rfl g 24 rfl (Ti.tc (Ti.writeT b.t0 q v)) rfl (by kernel_rfl) (bc b) (bc { b with t0 := Ti.writeT b.t0 q v }) ty T2.out.q (by rw [bc_length]; simp [Ti.tc]) (Ti.tc_one _) (bc_ta _) ?_
  have T3 := Lib.hid (T2.out.wrt (d := { b with t0 := Ti.writeT b.t0 q v }) (VRow.set T2.out.q _) (fun k hk => setRow_other _ g k _ hk) (setRow_below (Below.refl _ _) (Nat.le_refl _) _))
  refine hK.out _ _ (VRow.oth T2.out.hp (fun k hk => setRow_other _ g k _ hk) (Nat.ne_of_gt T2.out.lg)) (fun hHeld2 => ?_)
  clear hK K hHeld hHeld2 T2
  generalize World.setRow _ _ _ = Y2 at *
  try simp only [Act.put]
  refine wpAnyH_done (by kernel_rfl) ?_ _
  refine NoPanic.normal ?_
  go_wp2
  go_end0
  exact ⟨rfl, T3.out⟩
theorem write_counter1 (b : Bk) (r v : Int) (X : World) (g : Nat) (ty : TypeId) (fv : Value) (hfv : fv.oneCell' = true) (first q : Int) (hq : IntKind.i64.wrap (r - first) = q) (h : b.ok) (h0 : -9223372036854775808 ≤ q) (h1 : q ≤ 9223372036854775807) (h2 : -2147483648 ≤ v) (h3 : v ≤ 2147483647) (hr : BRow X g ty b) :
    Calls Tryz.prog 119 #[.agg #[fv, .pointer (some ⟨g, 27, none⟩), .int .i64 first], .int .i64 r, .int .i32 v] X fun x w' => x = .returned (.tuple #[]) ∧ Wrt X w' g ty { b with t1 := Ti.writeT b.t1 q v } := by
  have KK : Hid (∀ W : World, Calls Tryz.prog 120 #[.agg ((Ti.tc b.t1)).toArray, .int .i64 q, .int .i32 v] W fun x w' => x = .returned (.agg ((Ti.tc (Ti.writeT b.t1 q v))).toArray) ∧ Below W.heap.size W w') := Lib.hid (fun W => Ti.timer_ok.write b.t1 q v W h.t1 h0 h1 h2 h3)
  have HQ := Lib.hid hq
  clear hq
  have R0 := Lib.hid hr
  clear hr
  go_enter Tryz.func119, Tryz.ntmps119
  go_upto_region 1 with fail
  refine name_one (Q := fun X => Code.wp _ _ _ _ X) ?_
  intro W0 hq1 hB0 hz0
  have T0 : Hid (Dv X W0 X.heap.size g 160 ty [fv, .pointer (some ⟨g, 27, none⟩), .int .i64 first] b) := Lib.hid ⟨hq1, R0.out.below hB0 R0.out.lt, hB0, rfl, R0.out.lt⟩
  clear hq1 hB0 hz0 R0
  go_upto_region 2 with fail
  refine wp_region_noPanic ?_
  refine wp_region_held_drew (S := fun Y => VRow Y X.heap.size 160 [fv, .pointer (some ⟨g, 27, none⟩), .int .i64 first]) (by kernel_rfl) (T0.out.under (Below.refl _ _).drew).hp (fun hHeld => ?_)
  have T1 := Lib.hid (T0.out.under ((Below.refl _ _).drew))
  clear T0
  obtain ⟨Y0, hY0⟩ : ∃ Y, W0.drew = Y := ⟨_, rfl⟩
  rw [hY0] at hHeld T1 ⊢
  clear hY0
  refine' take_ 0 rfl (by kernel_rfl) (by kernel_rfl) (by kernel_rfl) (fun _ _ _ h => h) (by rfl) (fun wS hSw => ?_) hHeld ?_
  rotate_left
  focus (go_simp; (try with_reducible rfl); done)
  try simp only [Act.put, List.setIfInBounds_toArray, List.set_cons_zero, List.set_cons_succ]
  refine' take_ 1 rfl (by kernel_rfl) (by kernel_rfl) (by kernel_rfl) (fun _ _ _ h => h) (by rfl) (fun wS hSw => ?_) hHeld ?_
  rotate_left
  focus (have hb := hSw.c 1 _ rfl; go_simp; (try with_reducible rfl); done)
  try simp only [Act.put, List.setIfInBounds_toArray, List.set_cons_zero, List.set_cons_succ]
  refine' take_ 2 rfl (by kernel_rfl) (by kernel_rfl) (by kernel_rfl) (fun _ _ _ h => h) (by rfl) (fun wS hSw => ?_) hHeld ?_
  rotate_left
  focus (go_simp; (try with_reducible rfl); done)
  try simp only [Act.put, List.setIfInBounds_toArray, List.set_cons_zero, List.set_cons_succ]
  refine' take_ 3 rfl (by kernel_rfl) (by kernel_rfl) (by kernel_rfl) (fun _ _ _ h => h) (by rfl) (fun wS hSw => ?_) hHeld ?_
  rotate_left
  focus (have hb := hSw.c 1 _ rfl; go_simp; (try with_reducible rfl); done)
  try simp only [Act.put, List.setIfInBounds_toArray, List.set_cons_zero, List.set_cons_succ]
  refine' take_ 4 rfl (by kernel_rfl) (by kernel_rfl) (by kernel_rfl) (fun _ _ _ h => h) (by rfl) (fun wS hSw => ?_) hHeld ?_
  rotate_left
  focus (go_simp; (try with_reducible rfl); done)
  try simp only [Act.put, List.setIfInBounds_toArray, List.set_cons_zero, List.set_cons_succ]
  refine' take_ 6 rfl (by kernel_rfl) (by kernel_rfl) (by kernel_rfl) (fun _ _ _ h => h) (by rfl) (fun wS hSw => ?_) hHeld ?_
  rotate_left
  focus (go_simp; (try with_reducible rfl); done)
  try simp only [Act.put, List.setIfInBounds_toArray, List.set_cons_zero, List.set_cons_succ]
  refine' take_ 7 rfl (by kernel_rfl) (by kernel_rfl) (by kernel_rfl) (fun _ _ _ h => h) (by rfl) (fun wS hSw => ?_) hHeld ?_
  rotate_left
  focus (go_simp; (try with_reducible rfl); done)
  try simp only [Act.put, List.setIfInBounds_toArray, List.set_cons_zero, List.set_cons_succ]
  refine' take_ 8 rfl (by kernel_rfl) (by kernel_rfl) (by kernel_rfl) (fun _ _ _ h => h) (by rfl) (fun wS hSw => ?_) hHeld ?_
  rotate_left
  focus (have hb := hSw.c 2 _ rfl; go_simp; (try with_reducible rfl); done)
  try simp only [Act.put, List.setIfInBounds_toArray, List.set_cons_zero, List.set_cons_succ]
  refine' take_ 9 rfl (by kernel_rfl) (by kernel_rfl) (by kernel_rfl) (fun _ _ _ h => h) (by rfl) (fun wS hSw => ?_) hHeld ?_
  rotate_left
  focus (go_simp; rw [HQ.out]; (try with_reducible rfl); done)
  try simp only [Act.put, List.setIfInBounds_toArray, List.set_cons_zero, List.set_cons_succ]
  refine' take_ 10 rfl (by kernel_rfl) (by kernel_rfl) (by kernel_rfl) (fun _ _ _ h => h) (by rfl) (fun wS hSw => ?_) hHeld ?_
  rotate_left
  focus (go_simp; (try with_reducible rfl); done)
  try simp only [Act.put, List.setIfInBounds_toArray, List.set_cons_zero, List.set_cons_succ]
  refine only_ 5 rfl (by kernel_rfl) (by rfl) (fun K hK => ?_)
  refine wp_of_run (.agg ((Ti.tc b.t1)).toArray) (run_load_at _ 32 (.tmp 10) g 27 rfl (Ti.tc b.t1) _ T1.out.q.tb Tryz.underlying32 rfl (by kernel_rfl) _ _ _ _ _) (hK.out _ _ hHeld (fun hHeld2 => ?_))
  clear hK K hHeld
  have hHeld := hHeld2
  clear hHeld2
  try simp only [Act.put, List.setIfInBounds_toArray, List.set_cons_zero, List.set_cons_succ]
  refine only_ 11 rfl (by kernel_rfl) (by rfl) (fun K hK => ?_)
  go_simp
  with_reducible refine (KK.out _).mono ?_
  rintro e Y1 ⟨rfl, hB⟩
  have T2 := Lib.hid (T1.out.under hB)
  go_simp
  refine hK.out _ _ T2.out.hp (fun hHeld2 => ?_)
  clear hK K hHeld hB T1
  have hHeld := hHeld2
  clear hHeld2
  try simp only [Act.put, List.setIfInBounds_toArray, List.set_cons_zero, List.set_cons_succ]
  refine' take_ 12 rfl (by kernel_rfl) (by kernel_rfl) (by kernel_rfl) (fun _ _ _ h => h) (by rfl) (fun wS hSw => ?_) hHeld ?_
  rotate_left
  focus (go_simp; (try with_reducible rfl); done)
  try simp only [Act.put, List.setIfInBounds_toArray, List.set_cons_zero, List.set_cons_succ]
  refine only_ 13 rfl (by kernel_rfl) (by rfl) (fun K hK => ?_)
  refine wp_store_row rfl 32 _ _ rfl g 27 rfl (Ti.tc (Ti.writeT b.t1 q v)) rfl (by kernel_rfl) (bc b) (bc { b with t1 := Ti.writeT b.t1 q v }) ty T2.out.q (by rw [bc_length]; simp [Ti.tc]) (Ti.tc_one _) (bc_tb _) ?_
  have T3 := Lib.hid (T2.out.wrt (d := { b with t1 := Ti.writeT b.t1 q v }) (VRow.set T2.out.q _) (fun k hk => setRow_other _ g k _ hk) (setRow_below (Below.refl _ _) (Nat.le_refl _) _))
  refine hK.out _ _ (VRow.oth T2.out.hp (fun k hk => setRow_other _ g k _ hk) (Nat.ne_of_gt T2.out.lg)) (fun hHeld2 => ?_)
  clear hK K hHeld hHeld2 T2
  generalize World.setRow _ _ _ = Y2 at *
  try simp only [Act.put]
  refine wpAnyH_done (by kernel_rfl) ?_ _
  refine NoPanic.normal ?_
  go_wp2
  go_end0
  exact ⟨rfl, T3.out⟩
end Go.Proofs.YtkodoldkfeopdaaGreat
