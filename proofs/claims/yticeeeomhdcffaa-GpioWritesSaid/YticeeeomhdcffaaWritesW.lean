/-
  GpioWrites' walk: what is written is read back, its lowest byte; pins in are not written; nothing else changes: true. Made by wip/gengpiowrites.py.
-/
import Derived.Test.YticeeeomhdcffaaBitL
namespace Go.Proofs.Yticeeeomhdcffaa
open Go.RowKit
set_option linter.unusedVariables false
def actW (o i e : Nat) (v : Int) (g0 : Nat) (s8 s9 s10 s11 s22 s25 s28 s31 : Value) : Act := ⟨#[Value.int .u8 (o : Int), Value.int .u8 (i : Int), Value.int .i32 v, undef, undef, undef, Value.bool false, Value.pointer (some ⟨g0, 0, none⟩), s8, s9, s10, s11, undef, Value.bool true, Value.bool false, Value.int .u8 (o : Int), Value.int .u8 (i : Int), Value.int .u8 (i : Int), Value.int .u8 (e : Int), Value.agg #[.int .u8 (o : Int), .int .u8 (i : Int), .int .u8 (e : Int)], gv o i e, Value.int .i32 v, s22, gv o i e, Value.int .i32 v, s25, gv o i e, Value.int .i32 v, s28, gv o i e, Value.int .i32 v, s31, undef, undef, undef, undef, undef, undef, undef, undef, undef, undef, undef, undef, undef, undef, undef, undef, undef, undef, undef, undef, undef, undef, undef, undef, undef, undef, undef, undef, undef, undef, undef, undef, undef, undef, undef, undef, undef, undef, undef, undef, undef, undef, undef, undef, undef, undef, undef, undef, undef, undef, undef, undef, undef, undef, undef, undef, undef, undef, undef, undef, undef, undef], []⟩
theorem actW_8 (o i e : Nat) (v : Int) (g0 : Nat) (s8 s9 s10 s11 s22 s25 s28 s31 x : Value) : (actW o i e v g0 s8 s9 s10 s11 s22 s25 s28 s31).put (some 8) x = actW o i e v g0 x s9 s10 s11 s22 s25 s28 s31 := rfl
theorem actW_9 (o i e : Nat) (v : Int) (g0 : Nat) (s8 s9 s10 s11 s22 s25 s28 s31 x : Value) : (actW o i e v g0 s8 s9 s10 s11 s22 s25 s28 s31).put (some 9) x = actW o i e v g0 s8 x s10 s11 s22 s25 s28 s31 := rfl
theorem actW_10 (o i e : Nat) (v : Int) (g0 : Nat) (s8 s9 s10 s11 s22 s25 s28 s31 x : Value) : (actW o i e v g0 s8 s9 s10 s11 s22 s25 s28 s31).put (some 10) x = actW o i e v g0 s8 s9 x s11 s22 s25 s28 s31 := rfl
theorem actW_11 (o i e : Nat) (v : Int) (g0 : Nat) (s8 s9 s10 s11 s22 s25 s28 s31 x : Value) : (actW o i e v g0 s8 s9 s10 s11 s22 s25 s28 s31).put (some 11) x = actW o i e v g0 s8 s9 s10 x s22 s25 s28 s31 := rfl
theorem actW_22 (o i e : Nat) (v : Int) (g0 : Nat) (s8 s9 s10 s11 s22 s25 s28 s31 x : Value) : (actW o i e v g0 s8 s9 s10 s11 s22 s25 s28 s31).put (some 22) x = actW o i e v g0 s8 s9 s10 s11 x s25 s28 s31 := rfl
theorem actW_25 (o i e : Nat) (v : Int) (g0 : Nat) (s8 s9 s10 s11 s22 s25 s28 s31 x : Value) : (actW o i e v g0 s8 s9 s10 s11 s22 s25 s28 s31).put (some 25) x = actW o i e v g0 s8 s9 s10 s11 s22 x s28 s31 := rfl
theorem actW_28 (o i e : Nat) (v : Int) (g0 : Nat) (s8 s9 s10 s11 s22 s25 s28 s31 x : Value) : (actW o i e v g0 s8 s9 s10 s11 s22 s25 s28 s31).put (some 28) x = actW o i e v g0 s8 s9 s10 s11 s22 s25 x s31 := rfl
theorem actW_31 (o i e : Nat) (v : Int) (g0 : Nat) (s8 s9 s10 s11 s22 s25 s28 s31 x : Value) : (actW o i e v g0 s8 s9 s10 s11 s22 s25 s28 s31).put (some 31) x = actW o i e v g0 s8 s9 s10 s11 s22 s25 s28 x := rfl
set_option maxHeartbeats 8000000 in
set_option maxRecDepth 100000 in
theorem writes_walk (H : GpioOk) (o i : Nat) (v : Int) (w : World) (ho : o < 256) (hi : i < 256) (h1 : -2147483648 ≤ v) (h2 : v ≤ 2147483647) :
    Calls Try.prog 5 #[.int .u8 o, .int .u8 i, .int .i32 v] w fun x w' => x = .returned (.bool true) ∧ Below w.heap.size w w' := by
  have hx : bits .xor .u8 (i : Int) 77 = ((i ^^^ 77 : Nat) : Int) := u8_xor_nat i 77 hi (by decide)
  have he : i ^^^ 77 < 256 := xorN i 77 hi (by decide)
  have ha := and255 v h1 h2
  have hl := lowN_lt v
  generalize hE : i ^^^ 77 = e at *
  generalize hN : lowN v = n at *
  have K0 : Hid (∀ W : World, Calls Try.prog 6 #[gv o i e, .int .i64 0, .int .i32 v] W fun x w' => x = .returned (gv n i e) ∧ Below W.heap.size W w') := Lib.hid (fun W => by
    have h := H.write o i e 0 v W ho hi he (by decide) (by decide) h1 h2
    rw [outN, if_pos rfl, edgeN, if_neg (by decide), hN] at h
    exact h)
  have K2 : Hid (∀ W : World, Calls Try.prog 6 #[gv o i e, .int .i64 2, .int .i32 v] W fun x w' => x = .returned (gv o i n) ∧ Below W.heap.size W w') := Lib.hid (fun W => by
    have h := H.write o i e 2 v W ho hi he (by decide) (by decide) h1 h2
    rw [outN, if_neg (by decide), edgeN, if_pos rfl, hN] at h
    exact h)
  have K1 : Hid (∀ W : World, Calls Try.prog 6 #[gv o i e, .int .i64 1, .int .i32 v] W fun x w' => x = .returned (gv o i e) ∧ Below W.heap.size W w') := Lib.hid (fun W => by
    have h := H.write o i e 1 v W ho hi he (by decide) (by decide) h1 h2
    rw [outN, if_neg (by decide), edgeN, if_neg (by decide)] at h
    exact h)
  have K3 : Hid (∀ W : World, Calls Try.prog 6 #[gv o i e, .int .i64 3, .int .i32 v] W fun x w' => x = .returned (gv o i e) ∧ Below W.heap.size W w') := Lib.hid (fun W => by
    have h := H.write o i e 3 v W ho hi he (by decide) (by decide) h1 h2
    rw [outN, if_neg (by decide), edgeN, if_neg (by decide)] at h
    exact h)
  have P0 : Hid (∀ W : World, Calls Try.prog 13 #[gv n i e, .int .i64 0] W fun x w' => x = .returned (.int .i32 n) ∧ Below W.heap.size W w') := Lib.hid (fun W => H.peek n i e 0 W hl hi he (by decide) (by decide))
  have P2 : Hid (∀ W : World, Calls Try.prog 13 #[gv o i n, .int .i64 2] W fun x w' => x = .returned (.int .i32 n) ∧ Below W.heap.size W w') := Lib.hid (fun W => H.peek o i n 2 W ho hi hl (by decide) (by decide))
  have P1 : Hid (∀ W : World, Calls Try.prog 13 #[gv o i e, .int .i64 1] W fun x w' => x = .returned (.int .i32 i) ∧ Below W.heap.size W w') := Lib.hid (fun W => H.peek o i e 1 W ho hi he (by decide) (by decide))
  have P3 : Hid (∀ W : World, Calls Try.prog 13 #[gv o i e, .int .i64 3] W fun x w' => x = .returned (.int .i32 0) ∧ Below W.heap.size W w') := Lib.hid (fun W => H.peek o i e 3 W ho hi he (by decide) (by decide))
  have hq : ∀ W : World, (binOp .eql 24 (gv o i e) (gv o i e)).run Try.prog W = .ok (.bool true) W := fun W => by rw [run_eql_g]; simp
  have hg : ∀ (x y : Operand) (W : World), (eqGuard .eql 24 x y (gv o i e) (gv o i e)).run Try.prog W = .ok () W := fun x y W => guard_g W x y _ _ _ _ _ _
  clear hE hN
  go_enter Try.func5, Try.ntmps5
  go_upto_region 4 with (first
    | (go_at_call 15; refine (works_any H _).mono ?_; rintro e w0 ⟨rfl, hB⟩; have BB_w0 := Lib.hid hB; clear hB))
  refine name_one (Q := fun X => Code.wp _ _ _ _ X) ?_
  intro W1 hR hB hz
  have RG : Hid (GRow W1 w0.heap.size 24 o i e) := Lib.hid hR
  have BB_W1 : Hid (Below w.heap.size w W1) := Lib.hid (BB_w0.out.trans (hB.mono BB_w0.out.size))
  clear hR hB hz
  refine wp_region_noPanic ?_
  refine wp_region_held_drew (S := fun X => Below W1.heap.size W1 X) (by kernel_rfl) ((Below.refl _ W1).drew) (fun hHeld => ?_)
  refine' take_ 0 rfl (by kernel_rfl) (by kernel_rfl) (by kernel_rfl) (fun _ _ _ h => h) (by rfl) (fun wS hSw => run_load_g wS 24 _ w0.heap.size rfl _ Try.underlying24 (by kernel_rfl) _ _ _ _ (GRow.below RG.out hSw RG.out.lt) _ _ _ _ _) hHeld ?_
  try simp only [Act.put, List.setIfInBounds_toArray, List.set_cons_zero, List.set_cons_succ]
  refine' take_ 3 rfl (by kernel_rfl) (by kernel_rfl) (by kernel_rfl) (fun _ _ _ h => h) (by rfl) (fun wS hSw => run_load_g wS 24 _ w0.heap.size rfl _ Try.underlying24 (by kernel_rfl) _ _ _ _ (GRow.below RG.out hSw RG.out.lt) _ _ _ _ _) hHeld ?_
  try simp only [Act.put, List.setIfInBounds_toArray, List.set_cons_zero, List.set_cons_succ]
  refine' take_ 6 rfl (by kernel_rfl) (by kernel_rfl) (by kernel_rfl) (fun _ _ _ h => h) (by rfl) (fun wS hSw => run_load_g wS 24 _ w0.heap.size rfl _ Try.underlying24 (by kernel_rfl) _ _ _ _ (GRow.below RG.out hSw RG.out.lt) _ _ _ _ _) hHeld ?_
  try simp only [Act.put, List.setIfInBounds_toArray, List.set_cons_zero, List.set_cons_succ]
  refine' take_ 9 rfl (by kernel_rfl) (by kernel_rfl) (by kernel_rfl) (fun _ _ _ h => h) (by rfl) (fun wS hSw => run_load_g wS 24 _ w0.heap.size rfl _ Try.underlying24 (by kernel_rfl) _ _ _ _ (GRow.below RG.out hSw RG.out.lt) _ _ _ _ _) hHeld ?_
  try simp only [Act.put, List.setIfInBounds_toArray, List.set_cons_zero, List.set_cons_succ]
  refine' take_ 1 rfl (by kernel_rfl) (by kernel_rfl) (by kernel_rfl) (fun _ _ _ h => h) (by rfl) (fun wS hSw => ?_) hHeld ?_
  rotate_left
  focus (go_simp; (try with_reducible rfl); done)
  try simp only [Act.put, List.setIfInBounds_toArray, List.set_cons_zero, List.set_cons_succ]
  refine' take_ 4 rfl (by kernel_rfl) (by kernel_rfl) (by kernel_rfl) (fun _ _ _ h => h) (by rfl) (fun wS hSw => ?_) hHeld ?_
  rotate_left
  focus (go_simp; (try with_reducible rfl); done)
  try simp only [Act.put, List.setIfInBounds_toArray, List.set_cons_zero, List.set_cons_succ]
  refine' take_ 7 rfl (by kernel_rfl) (by kernel_rfl) (by kernel_rfl) (fun _ _ _ h => h) (by rfl) (fun wS hSw => ?_) hHeld ?_
  rotate_left
  focus (go_simp; (try with_reducible rfl); done)
  try simp only [Act.put, List.setIfInBounds_toArray, List.set_cons_zero, List.set_cons_succ]
  refine' take_ 10 rfl (by kernel_rfl) (by kernel_rfl) (by kernel_rfl) (fun _ _ _ h => h) (by rfl) (fun wS hSw => ?_) hHeld ?_
  rotate_left
  focus (go_simp; (try with_reducible rfl); done)
  try simp only [Act.put, List.setIfInBounds_toArray, List.set_cons_zero, List.set_cons_succ]
  generalize hF : wpAnyH _ _ _ _ _ = F
  have ST_4_0123 : Hid (∀ (X : World) (g8 g9 g10 g11 : Nat) (hX : Below W1.heap.size W1 X) (rg8 : GRow X g8 24 0 0 0) (bg8 : W1.heap.size ≤ g8) (rg9 : GRow X g9 24 0 0 0) (bg9 : W1.heap.size ≤ g9) (rg10 : GRow X g10 24 0 0 0) (bg10 : W1.heap.size ≤ g10) (rg11 : GRow X g11 24 0 0 0) (bg11 : W1.heap.size ≤ g11) (dg8g9 : g8 ≠ g9) (dg8g10 : g8 ≠ g10) (dg8g11 : g8 ≠ g11) (dg9g10 : g9 ≠ g10) (dg9g11 : g9 ≠ g11) (dg10g11 : g10 ≠ g11), F 4 #[true, true, true, true, true, true, true, true, true, true, true, true, true, true, true, true, false, false, false, false] (actW o i e v w0.heap.size (.pointer (some ⟨g8, 0, none⟩)) (.pointer (some ⟨g9, 0, none⟩)) (.pointer (some ⟨g10, 0, none⟩)) (.pointer (some ⟨g11, 0, none⟩)) (gv n i e) (gv o i n) (gv o i e) (gv o i e)) X) := Lib.hid (by
    intro X g8 g9 g10 g11 hX rg8 bg8 rg9 bg9 rg10 bg10 rg11 bg11 dg8g9 dg8g10 dg8g11 dg9g10 dg9g11 dg10g11
    rw [← hF]
    unfold actW
    refine only_ 16 rfl (by kernel_rfl) (by rfl) (fun K hK => ?_)
    refine wp_store_g 24 _ _ rfl g8 rfl n i e rfl (by kernel_rfl) 24 _ _ _ rg8 ?_
    intro X1 HN HO HB
    have hX1 : Below W1.heap.size W1 X1 := hX.trans (HB.out.mono bg8)
    have qg8_X1 := HN.out
    have qg9_X1 := (HO.out g9 dg8g9.symm).trans rg9
    have qg10_X1 := (HO.out g10 dg8g10.symm).trans rg10
    have qg11_X1 := (HO.out g11 dg8g11.symm).trans rg11
    refine hK.out _ _ hX1 (fun _ => ?_)
    clear HN HO HB hK K
    try simp only [Act.put]
    refine only_ 17 rfl (by kernel_rfl) (by rfl) (fun K hK => ?_)
    refine wp_store_g 24 _ _ rfl g9 rfl o i n rfl (by kernel_rfl) 24 _ _ _ qg9_X1 ?_
    intro X2 HN HO HB
    have hX2 : Below W1.heap.size W1 X2 := hX1.trans (HB.out.mono bg9)
    have qg8_X2 := (HO.out g8 dg8g9).trans qg8_X1
    have qg9_X2 := HN.out
    have qg10_X2 := (HO.out g10 dg9g10.symm).trans qg10_X1
    have qg11_X2 := (HO.out g11 dg9g11.symm).trans qg11_X1
    refine hK.out _ _ hX2 (fun _ => ?_)
    clear HN HO HB hK K
    try simp only [Act.put]
    refine only_ 18 rfl (by kernel_rfl) (by rfl) (fun K hK => ?_)
    refine wp_store_g 24 _ _ rfl g10 rfl o i e rfl (by kernel_rfl) 24 _ _ _ qg10_X2 ?_
    intro X3 HN HO HB
    have hX3 : Below W1.heap.size W1 X3 := hX2.trans (HB.out.mono bg10)
    have qg8_X3 := (HO.out g8 dg8g10).trans qg8_X2
    have qg9_X3 := (HO.out g9 dg9g10).trans qg9_X2
    have qg10_X3 := HN.out
    have qg11_X3 := (HO.out g11 dg10g11.symm).trans qg11_X2
    refine hK.out _ _ hX3 (fun _ => ?_)
    clear HN HO HB hK K
    try simp only [Act.put]
    refine only_ 19 rfl (by kernel_rfl) (by rfl) (fun K hK => ?_)
    refine wp_store_g 24 _ _ rfl g11 rfl o i e rfl (by kernel_rfl) 24 _ _ _ qg11_X3 ?_
    intro X4 HN HO HB
    have hX4 : Below W1.heap.size W1 X4 := hX3.trans (HB.out.mono bg11)
    have qg8_X4 := (HO.out g8 dg8g11).trans qg8_X3
    have qg9_X4 := (HO.out g9 dg9g11).trans qg9_X3
    have qg10_X4 := (HO.out g10 dg10g11).trans qg10_X3
    have qg11_X4 := HN.out
    refine hK.out _ _ hX4 (fun _ => ?_)
    clear HN HO HB hK K
    try simp only [Act.put]
    refine wpAnyH_done (by kernel_rfl) ?_ _
    refine NoPanic.normal ?_
    obtain ⟨wz, hwz⟩ : ∃ Z, Z = X4 := ⟨_, rfl⟩
    rw [← hwz] at hX4 qg8_X4 qg9_X4 qg10_X4 qg11_X4 ⊢
    have RA_wz : Hid (GRow wz g8 24 n i e) := Lib.hid qg8_X4
    have RB_wz : Hid (GRow wz g9 24 o i n) := Lib.hid qg9_X4
    have RC_wz : Hid (GRow wz g10 24 o i e) := Lib.hid qg10_X4
    have RD_wz : Hid (GRow wz g11 24 o i e) := Lib.hid qg11_X4
    have RG_wz : Hid (GRow wz w0.heap.size 24 o i e) := Lib.hid (GRow.below RG.out hX4 RG.out.lt)
    have BB_wz : Hid (Below w.heap.size w wz) := Lib.hid (BB_W1.out.trans (hX4.mono BB_W1.out.size))
    have BZ_0 : Hid (Below wz.heap.size wz wz) := Lib.hid (Below.refl _ _)
    clear hX4 qg8_X4 qg9_X4 qg10_X4 qg11_X4 hwz
    clear qg8_X1 qg8_X2 qg8_X3 qg9_X1 qg9_X2 qg9_X3 qg10_X1 qg10_X2 qg10_X3 qg11_X1 qg11_X2 qg11_X3 hX1 hX2 hX3 hX rg8 bg8 rg9 bg9 rg10 bg10 rg11 bg11 dg8g9 dg8g10 dg8g11 dg9g10 dg9g11 dg10g11
    go_wp2_with (first
          | (go_at_call 13; have hc := BZ_3; clear hc; refine (P3.out _).mono ?_; rintro e x4 ⟨rfl, hB⟩
             have BZ_4 : Hid (Below wz.heap.size wz x4) := Lib.hid (BZ_3.out.trans (hB.mono BZ_3.out.size))
             clear hB BZ_3)
          | ((with_reducible show wpList _ _ _ (⟨some 90, .load 24 (.tmp 7), _, _, _, _⟩ :: _) _ _); refine wpList_load_g (by kernel_rfl) 24 _ rfl (w0.heap.size) (by exact rfl) _ Try.underlying24 (by kernel_rfl) 24 _ _ _ (GRow.below RG_wz.out BZ_3.out RG_wz.out.lt) ?_)
          | (go_at_call 13; have hc := BZ_2; clear hc; refine (P1.out _).mono ?_; rintro e x3 ⟨rfl, hB⟩
             have BZ_3 : Hid (Below wz.heap.size wz x3) := Lib.hid (BZ_2.out.trans (hB.mono BZ_2.out.size))
             clear hB BZ_2)
          | ((with_reducible show wpList _ _ _ (⟨some 83, .load 24 (.tmp 7), _, _, _, _⟩ :: _) _ _); refine wpList_load_g (by kernel_rfl) 24 _ rfl (w0.heap.size) (by exact rfl) _ Try.underlying24 (by kernel_rfl) 24 _ _ _ (GRow.below RG_wz.out BZ_2.out RG_wz.out.lt) ?_)
          | ((with_reducible show wpList _ _ _ (⟨some 79, .load 24 (.tmp 7), _, _, _, _⟩ :: _) _ _); refine wpList_load_g (by kernel_rfl) 24 _ rfl (w0.heap.size) (by exact rfl) _ Try.underlying24 (by kernel_rfl) 24 _ _ _ (GRow.below RG_wz.out BZ_2.out RG_wz.out.lt) ?_)
          | ((with_reducible show wpList _ _ _ (⟨some 78, .load 24 (.tmp 11), _, _, _, _⟩ :: _) _ _); refine wpList_load_g (by kernel_rfl) 24 _ rfl (g11) (by exact rfl) _ Try.underlying24 (by kernel_rfl) 24 _ _ _ (GRow.below RD_wz.out BZ_2.out RD_wz.out.lt) ?_)
          | ((with_reducible show wpList _ _ _ (⟨some 74, .load 24 (.tmp 7), _, _, _, _⟩ :: _) _ _); refine wpList_load_g (by kernel_rfl) 24 _ rfl (w0.heap.size) (by exact rfl) _ Try.underlying24 (by kernel_rfl) 24 _ _ _ (GRow.below RG_wz.out BZ_2.out RG_wz.out.lt) ?_)
          | ((with_reducible show wpList _ _ _ (⟨some 73, .load 24 (.tmp 10), _, _, _, _⟩ :: _) _ _); refine wpList_load_g (by kernel_rfl) 24 _ rfl (g10) (by exact rfl) _ Try.underlying24 (by kernel_rfl) 24 _ _ _ (GRow.below RC_wz.out BZ_2.out RC_wz.out.lt) ?_)
          | (go_at_call 13; have hc := BZ_1; clear hc; refine (P2.out _).mono ?_; rintro e x2 ⟨rfl, hB⟩
             have BZ_2 : Hid (Below wz.heap.size wz x2) := Lib.hid (BZ_1.out.trans (hB.mono BZ_1.out.size))
             obtain ⟨RB0_2, RB1_2, RB2_2⟩ := GRow.three (GRow.below RB_wz.out BZ_2.out RB_wz.out.lt)
             obtain ⟨RG0_2, RG1_2, RG2_2⟩ := GRow.three (GRow.below RG_wz.out BZ_2.out RG_wz.out.lt)
             clear hB BZ_1)
          | ((with_reducible show wpList _ _ _ (⟨some 53, .load 24 (.tmp 9), _, _, _, _⟩ :: _) _ _); refine wpList_load_g (by kernel_rfl) 24 _ rfl (g9) (by exact rfl) _ Try.underlying24 (by kernel_rfl) 24 _ _ _ (GRow.below RB_wz.out BZ_1.out RB_wz.out.lt) ?_)
          | (go_at_call 13; have hc := BZ_0; clear hc; refine (P0.out _).mono ?_; rintro e x1 ⟨rfl, hB⟩
             have BZ_1 : Hid (Below wz.heap.size wz x1) := Lib.hid (BZ_0.out.trans (hB.mono BZ_0.out.size))
             obtain ⟨RA0_1, RA1_1, RA2_1⟩ := GRow.three (GRow.below RA_wz.out BZ_1.out RA_wz.out.lt)
             obtain ⟨RG0_1, RG1_1, RG2_1⟩ := GRow.three (GRow.below RG_wz.out BZ_1.out RG_wz.out.lt)
             clear hB BZ_0)
          | ((with_reducible show wpList _ _ _ (⟨some 34, .load 24 (.tmp 8), _, _, _, _⟩ :: _) _ _); refine wpList_load_g (by rfl) 24 _ rfl (g8) (by exact rfl) _ Try.underlying24 (by kernel_rfl) 24 _ _ _ (GRow.below RA_wz.out BZ_0.out RA_wz.out.lt) ?_))
    go_ret
    exact ⟨rfl, BB_wz.out.trans (BZ_4.out.mono BB_wz.out.size)⟩)
  have ST_4_012 : Hid (∀ (X : World) (g8 g9 g10 : Nat) (hX : Below W1.heap.size W1 X) (rg8 : GRow X g8 24 0 0 0) (bg8 : W1.heap.size ≤ g8) (rg9 : GRow X g9 24 0 0 0) (bg9 : W1.heap.size ≤ g9) (rg10 : GRow X g10 24 0 0 0) (bg10 : W1.heap.size ≤ g10) (dg8g9 : g8 ≠ g9) (dg8g10 : g8 ≠ g10) (dg9g10 : g9 ≠ g10), F 5 #[true, true, true, true, true, true, true, true, true, true, true, true, true, true, true, false, false, false, false, false] (actW o i e v w0.heap.size (.pointer (some ⟨g8, 0, none⟩)) (.pointer (some ⟨g9, 0, none⟩)) (.pointer (some ⟨g10, 0, none⟩)) undef (gv n i e) (gv o i n) (gv o i e) (gv o i e)) X) := Lib.hid (by
    intro X g8 g9 g10 hX rg8 bg8 rg9 bg9 rg10 bg10 dg8g9 dg8g10 dg9g10
    rw [← hF]
    refine wpAnyH_ready (rs := [15]) (by kernel_rfl) (by simp) ?_
    refine AllReadyH.cons rfl (fun K hK => ?_) ?_
    · rw [if_pos (by rfl)]
      refine wp_of_run (w' := X.alloc (.cells #[.int .u8 0, .int .u8 0, .int .u8 0] 24)) (.pointer (some ⟨X.heap.size, 0, none⟩)) (by kernel_rfl) (hK.out _ _ (hX.alloc hX.size _) (fun _ => ?_))
      rw [hF]
      show F _ _ (Act.put _ (some 11) _) _
      rw [actW_11]
      exact ST_4_0123.out _ g8 g9 g10 X.heap.size (hX.alloc hX.size _) (rg8.below ((Below.refl _ _).alloc (Nat.le_refl _) _) rg8.lt) bg8 (rg9.below ((Below.refl _ _).alloc (Nat.le_refl _) _) rg9.lt) bg9 (rg10.below ((Below.refl _ _).alloc (Nat.le_refl _) _) rg10.lt) bg10 (show GRow _ _ _ 0 0 0 from alloc_at _ _) hX.size dg8g9 dg8g10 (Nat.ne_of_lt rg8.lt) dg9g10 (Nat.ne_of_lt rg9.lt) (Nat.ne_of_lt rg10.lt)
    exact AllReadyH.nil)
  have ST_4_013 : Hid (∀ (X : World) (g8 g9 g11 : Nat) (hX : Below W1.heap.size W1 X) (rg8 : GRow X g8 24 0 0 0) (bg8 : W1.heap.size ≤ g8) (rg9 : GRow X g9 24 0 0 0) (bg9 : W1.heap.size ≤ g9) (rg11 : GRow X g11 24 0 0 0) (bg11 : W1.heap.size ≤ g11) (dg8g9 : g8 ≠ g9) (dg8g11 : g8 ≠ g11) (dg9g11 : g9 ≠ g11), F 5 #[true, true, true, true, true, true, true, true, true, true, true, true, true, true, false, true, false, false, false, false] (actW o i e v w0.heap.size (.pointer (some ⟨g8, 0, none⟩)) (.pointer (some ⟨g9, 0, none⟩)) undef (.pointer (some ⟨g11, 0, none⟩)) (gv n i e) (gv o i n) (gv o i e) (gv o i e)) X) := Lib.hid (by
    intro X g8 g9 g11 hX rg8 bg8 rg9 bg9 rg11 bg11 dg8g9 dg8g11 dg9g11
    rw [← hF]
    refine wpAnyH_ready (rs := [14]) (by kernel_rfl) (by simp) ?_
    refine AllReadyH.cons rfl (fun K hK => ?_) ?_
    · rw [if_pos (by rfl)]
      refine wp_of_run (w' := X.alloc (.cells #[.int .u8 0, .int .u8 0, .int .u8 0] 24)) (.pointer (some ⟨X.heap.size, 0, none⟩)) (by kernel_rfl) (hK.out _ _ (hX.alloc hX.size _) (fun _ => ?_))
      rw [hF]
      show F _ _ (Act.put _ (some 10) _) _
      rw [actW_10]
      exact ST_4_0123.out _ g8 g9 X.heap.size g11 (hX.alloc hX.size _) (rg8.below ((Below.refl _ _).alloc (Nat.le_refl _) _) rg8.lt) bg8 (rg9.below ((Below.refl _ _).alloc (Nat.le_refl _) _) rg9.lt) bg9 (show GRow _ _ _ 0 0 0 from alloc_at _ _) hX.size (rg11.below ((Below.refl _ _).alloc (Nat.le_refl _) _) rg11.lt) bg11 dg8g9 (Nat.ne_of_lt rg8.lt) dg8g11 (Nat.ne_of_lt rg9.lt) dg9g11 (Nat.ne_of_gt rg11.lt)
    exact AllReadyH.nil)
  have ST_4_023 : Hid (∀ (X : World) (g8 g10 g11 : Nat) (hX : Below W1.heap.size W1 X) (rg8 : GRow X g8 24 0 0 0) (bg8 : W1.heap.size ≤ g8) (rg10 : GRow X g10 24 0 0 0) (bg10 : W1.heap.size ≤ g10) (rg11 : GRow X g11 24 0 0 0) (bg11 : W1.heap.size ≤ g11) (dg8g10 : g8 ≠ g10) (dg8g11 : g8 ≠ g11) (dg10g11 : g10 ≠ g11), F 5 #[true, true, true, true, true, true, true, true, true, true, true, true, true, false, true, true, false, false, false, false] (actW o i e v w0.heap.size (.pointer (some ⟨g8, 0, none⟩)) undef (.pointer (some ⟨g10, 0, none⟩)) (.pointer (some ⟨g11, 0, none⟩)) (gv n i e) (gv o i n) (gv o i e) (gv o i e)) X) := Lib.hid (by
    intro X g8 g10 g11 hX rg8 bg8 rg10 bg10 rg11 bg11 dg8g10 dg8g11 dg10g11
    rw [← hF]
    refine wpAnyH_ready (rs := [13]) (by kernel_rfl) (by simp) ?_
    refine AllReadyH.cons rfl (fun K hK => ?_) ?_
    · rw [if_pos (by rfl)]
      refine wp_of_run (w' := X.alloc (.cells #[.int .u8 0, .int .u8 0, .int .u8 0] 24)) (.pointer (some ⟨X.heap.size, 0, none⟩)) (by kernel_rfl) (hK.out _ _ (hX.alloc hX.size _) (fun _ => ?_))
      rw [hF]
      show F _ _ (Act.put _ (some 9) _) _
      rw [actW_9]
      exact ST_4_0123.out _ g8 X.heap.size g10 g11 (hX.alloc hX.size _) (rg8.below ((Below.refl _ _).alloc (Nat.le_refl _) _) rg8.lt) bg8 (show GRow _ _ _ 0 0 0 from alloc_at _ _) hX.size (rg10.below ((Below.refl _ _).alloc (Nat.le_refl _) _) rg10.lt) bg10 (rg11.below ((Below.refl _ _).alloc (Nat.le_refl _) _) rg11.lt) bg11 (Nat.ne_of_lt rg8.lt) dg8g10 dg8g11 (Nat.ne_of_gt rg10.lt) (Nat.ne_of_gt rg11.lt) dg10g11
    exact AllReadyH.nil)
  have ST_4_123 : Hid (∀ (X : World) (g9 g10 g11 : Nat) (hX : Below W1.heap.size W1 X) (rg9 : GRow X g9 24 0 0 0) (bg9 : W1.heap.size ≤ g9) (rg10 : GRow X g10 24 0 0 0) (bg10 : W1.heap.size ≤ g10) (rg11 : GRow X g11 24 0 0 0) (bg11 : W1.heap.size ≤ g11) (dg9g10 : g9 ≠ g10) (dg9g11 : g9 ≠ g11) (dg10g11 : g10 ≠ g11), F 5 #[true, true, true, true, true, true, true, true, true, true, true, true, false, true, true, true, false, false, false, false] (actW o i e v w0.heap.size undef (.pointer (some ⟨g9, 0, none⟩)) (.pointer (some ⟨g10, 0, none⟩)) (.pointer (some ⟨g11, 0, none⟩)) (gv n i e) (gv o i n) (gv o i e) (gv o i e)) X) := Lib.hid (by
    intro X g9 g10 g11 hX rg9 bg9 rg10 bg10 rg11 bg11 dg9g10 dg9g11 dg10g11
    rw [← hF]
    refine wpAnyH_ready (rs := [12]) (by kernel_rfl) (by simp) ?_
    refine AllReadyH.cons rfl (fun K hK => ?_) ?_
    · rw [if_pos (by rfl)]
      refine wp_of_run (w' := X.alloc (.cells #[.int .u8 0, .int .u8 0, .int .u8 0] 24)) (.pointer (some ⟨X.heap.size, 0, none⟩)) (by kernel_rfl) (hK.out _ _ (hX.alloc hX.size _) (fun _ => ?_))
      rw [hF]
      show F _ _ (Act.put _ (some 8) _) _
      rw [actW_8]
      exact ST_4_0123.out _ X.heap.size g9 g10 g11 (hX.alloc hX.size _) (show GRow _ _ _ 0 0 0 from alloc_at _ _) hX.size (rg9.below ((Below.refl _ _).alloc (Nat.le_refl _) _) rg9.lt) bg9 (rg10.below ((Below.refl _ _).alloc (Nat.le_refl _) _) rg10.lt) bg10 (rg11.below ((Below.refl _ _).alloc (Nat.le_refl _) _) rg11.lt) bg11 (Nat.ne_of_gt rg9.lt) (Nat.ne_of_gt rg10.lt) (Nat.ne_of_gt rg11.lt) dg9g10 dg9g11 dg10g11
    exact AllReadyH.nil)
  have ST_4_01 : Hid (∀ (X : World) (g8 g9 : Nat) (hX : Below W1.heap.size W1 X) (rg8 : GRow X g8 24 0 0 0) (bg8 : W1.heap.size ≤ g8) (rg9 : GRow X g9 24 0 0 0) (bg9 : W1.heap.size ≤ g9) (dg8g9 : g8 ≠ g9), F 6 #[true, true, true, true, true, true, true, true, true, true, true, true, true, true, false, false, false, false, false, false] (actW o i e v w0.heap.size (.pointer (some ⟨g8, 0, none⟩)) (.pointer (some ⟨g9, 0, none⟩)) undef undef (gv n i e) (gv o i n) (gv o i e) (gv o i e)) X) := Lib.hid (by
    intro X g8 g9 hX rg8 bg8 rg9 bg9 dg8g9
    rw [← hF]
    refine wpAnyH_ready (rs := [14, 15]) (by kernel_rfl) (by simp) ?_
    refine AllReadyH.cons rfl (fun K hK => ?_) ?_
    · rw [if_pos (by rfl)]
      refine wp_of_run (w' := X.alloc (.cells #[.int .u8 0, .int .u8 0, .int .u8 0] 24)) (.pointer (some ⟨X.heap.size, 0, none⟩)) (by kernel_rfl) (hK.out _ _ (hX.alloc hX.size _) (fun _ => ?_))
      rw [hF]
      show F _ _ (Act.put _ (some 10) _) _
      rw [actW_10]
      exact ST_4_012.out _ g8 g9 X.heap.size (hX.alloc hX.size _) (rg8.below ((Below.refl _ _).alloc (Nat.le_refl _) _) rg8.lt) bg8 (rg9.below ((Below.refl _ _).alloc (Nat.le_refl _) _) rg9.lt) bg9 (show GRow _ _ _ 0 0 0 from alloc_at _ _) hX.size dg8g9 (Nat.ne_of_lt rg8.lt) (Nat.ne_of_lt rg9.lt)
    refine AllReadyH.cons rfl (fun K hK => ?_) ?_
    · rw [if_pos (by rfl)]
      refine wp_of_run (w' := X.alloc (.cells #[.int .u8 0, .int .u8 0, .int .u8 0] 24)) (.pointer (some ⟨X.heap.size, 0, none⟩)) (by kernel_rfl) (hK.out _ _ (hX.alloc hX.size _) (fun _ => ?_))
      rw [hF]
      show F _ _ (Act.put _ (some 11) _) _
      rw [actW_11]
      exact ST_4_013.out _ g8 g9 X.heap.size (hX.alloc hX.size _) (rg8.below ((Below.refl _ _).alloc (Nat.le_refl _) _) rg8.lt) bg8 (rg9.below ((Below.refl _ _).alloc (Nat.le_refl _) _) rg9.lt) bg9 (show GRow _ _ _ 0 0 0 from alloc_at _ _) hX.size dg8g9 (Nat.ne_of_lt rg8.lt) (Nat.ne_of_lt rg9.lt)
    exact AllReadyH.nil)
  have ST_4_02 : Hid (∀ (X : World) (g8 g10 : Nat) (hX : Below W1.heap.size W1 X) (rg8 : GRow X g8 24 0 0 0) (bg8 : W1.heap.size ≤ g8) (rg10 : GRow X g10 24 0 0 0) (bg10 : W1.heap.size ≤ g10) (dg8g10 : g8 ≠ g10), F 6 #[true, true, true, true, true, true, true, true, true, true, true, true, true, false, true, false, false, false, false, false] (actW o i e v w0.heap.size (.pointer (some ⟨g8, 0, none⟩)) undef (.pointer (some ⟨g10, 0, none⟩)) undef (gv n i e) (gv o i n) (gv o i e) (gv o i e)) X) := Lib.hid (by
    intro X g8 g10 hX rg8 bg8 rg10 bg10 dg8g10
    rw [← hF]
    refine wpAnyH_ready (rs := [13, 15]) (by kernel_rfl) (by simp) ?_
    refine AllReadyH.cons rfl (fun K hK => ?_) ?_
    · rw [if_pos (by rfl)]
      refine wp_of_run (w' := X.alloc (.cells #[.int .u8 0, .int .u8 0, .int .u8 0] 24)) (.pointer (some ⟨X.heap.size, 0, none⟩)) (by kernel_rfl) (hK.out _ _ (hX.alloc hX.size _) (fun _ => ?_))
      rw [hF]
      show F _ _ (Act.put _ (some 9) _) _
      rw [actW_9]
      exact ST_4_012.out _ g8 X.heap.size g10 (hX.alloc hX.size _) (rg8.below ((Below.refl _ _).alloc (Nat.le_refl _) _) rg8.lt) bg8 (show GRow _ _ _ 0 0 0 from alloc_at _ _) hX.size (rg10.below ((Below.refl _ _).alloc (Nat.le_refl _) _) rg10.lt) bg10 (Nat.ne_of_lt rg8.lt) dg8g10 (Nat.ne_of_gt rg10.lt)
    refine AllReadyH.cons rfl (fun K hK => ?_) ?_
    · rw [if_pos (by rfl)]
      refine wp_of_run (w' := X.alloc (.cells #[.int .u8 0, .int .u8 0, .int .u8 0] 24)) (.pointer (some ⟨X.heap.size, 0, none⟩)) (by kernel_rfl) (hK.out _ _ (hX.alloc hX.size _) (fun _ => ?_))
      rw [hF]
      show F _ _ (Act.put _ (some 11) _) _
      rw [actW_11]
      exact ST_4_023.out _ g8 g10 X.heap.size (hX.alloc hX.size _) (rg8.below ((Below.refl _ _).alloc (Nat.le_refl _) _) rg8.lt) bg8 (rg10.below ((Below.refl _ _).alloc (Nat.le_refl _) _) rg10.lt) bg10 (show GRow _ _ _ 0 0 0 from alloc_at _ _) hX.size dg8g10 (Nat.ne_of_lt rg8.lt) (Nat.ne_of_lt rg10.lt)
    exact AllReadyH.nil)
  have ST_4_03 : Hid (∀ (X : World) (g8 g11 : Nat) (hX : Below W1.heap.size W1 X) (rg8 : GRow X g8 24 0 0 0) (bg8 : W1.heap.size ≤ g8) (rg11 : GRow X g11 24 0 0 0) (bg11 : W1.heap.size ≤ g11) (dg8g11 : g8 ≠ g11), F 6 #[true, true, true, true, true, true, true, true, true, true, true, true, true, false, false, true, false, false, false, false] (actW o i e v w0.heap.size (.pointer (some ⟨g8, 0, none⟩)) undef undef (.pointer (some ⟨g11, 0, none⟩)) (gv n i e) (gv o i n) (gv o i e) (gv o i e)) X) := Lib.hid (by
    intro X g8 g11 hX rg8 bg8 rg11 bg11 dg8g11
    rw [← hF]
    refine wpAnyH_ready (rs := [13, 14]) (by kernel_rfl) (by simp) ?_
    refine AllReadyH.cons rfl (fun K hK => ?_) ?_
    · rw [if_pos (by rfl)]
      refine wp_of_run (w' := X.alloc (.cells #[.int .u8 0, .int .u8 0, .int .u8 0] 24)) (.pointer (some ⟨X.heap.size, 0, none⟩)) (by kernel_rfl) (hK.out _ _ (hX.alloc hX.size _) (fun _ => ?_))
      rw [hF]
      show F _ _ (Act.put _ (some 9) _) _
      rw [actW_9]
      exact ST_4_013.out _ g8 X.heap.size g11 (hX.alloc hX.size _) (rg8.below ((Below.refl _ _).alloc (Nat.le_refl _) _) rg8.lt) bg8 (show GRow _ _ _ 0 0 0 from alloc_at _ _) hX.size (rg11.below ((Below.refl _ _).alloc (Nat.le_refl _) _) rg11.lt) bg11 (Nat.ne_of_lt rg8.lt) dg8g11 (Nat.ne_of_gt rg11.lt)
    refine AllReadyH.cons rfl (fun K hK => ?_) ?_
    · rw [if_pos (by rfl)]
      refine wp_of_run (w' := X.alloc (.cells #[.int .u8 0, .int .u8 0, .int .u8 0] 24)) (.pointer (some ⟨X.heap.size, 0, none⟩)) (by kernel_rfl) (hK.out _ _ (hX.alloc hX.size _) (fun _ => ?_))
      rw [hF]
      show F _ _ (Act.put _ (some 10) _) _
      rw [actW_10]
      exact ST_4_023.out _ g8 X.heap.size g11 (hX.alloc hX.size _) (rg8.below ((Below.refl _ _).alloc (Nat.le_refl _) _) rg8.lt) bg8 (show GRow _ _ _ 0 0 0 from alloc_at _ _) hX.size (rg11.below ((Below.refl _ _).alloc (Nat.le_refl _) _) rg11.lt) bg11 (Nat.ne_of_lt rg8.lt) dg8g11 (Nat.ne_of_gt rg11.lt)
    exact AllReadyH.nil)
  have ST_4_12 : Hid (∀ (X : World) (g9 g10 : Nat) (hX : Below W1.heap.size W1 X) (rg9 : GRow X g9 24 0 0 0) (bg9 : W1.heap.size ≤ g9) (rg10 : GRow X g10 24 0 0 0) (bg10 : W1.heap.size ≤ g10) (dg9g10 : g9 ≠ g10), F 6 #[true, true, true, true, true, true, true, true, true, true, true, true, false, true, true, false, false, false, false, false] (actW o i e v w0.heap.size undef (.pointer (some ⟨g9, 0, none⟩)) (.pointer (some ⟨g10, 0, none⟩)) undef (gv n i e) (gv o i n) (gv o i e) (gv o i e)) X) := Lib.hid (by
    intro X g9 g10 hX rg9 bg9 rg10 bg10 dg9g10
    rw [← hF]
    refine wpAnyH_ready (rs := [12, 15]) (by kernel_rfl) (by simp) ?_
    refine AllReadyH.cons rfl (fun K hK => ?_) ?_
    · rw [if_pos (by rfl)]
      refine wp_of_run (w' := X.alloc (.cells #[.int .u8 0, .int .u8 0, .int .u8 0] 24)) (.pointer (some ⟨X.heap.size, 0, none⟩)) (by kernel_rfl) (hK.out _ _ (hX.alloc hX.size _) (fun _ => ?_))
      rw [hF]
      show F _ _ (Act.put _ (some 8) _) _
      rw [actW_8]
      exact ST_4_012.out _ X.heap.size g9 g10 (hX.alloc hX.size _) (show GRow _ _ _ 0 0 0 from alloc_at _ _) hX.size (rg9.below ((Below.refl _ _).alloc (Nat.le_refl _) _) rg9.lt) bg9 (rg10.below ((Below.refl _ _).alloc (Nat.le_refl _) _) rg10.lt) bg10 (Nat.ne_of_gt rg9.lt) (Nat.ne_of_gt rg10.lt) dg9g10
    refine AllReadyH.cons rfl (fun K hK => ?_) ?_
    · rw [if_pos (by rfl)]
      refine wp_of_run (w' := X.alloc (.cells #[.int .u8 0, .int .u8 0, .int .u8 0] 24)) (.pointer (some ⟨X.heap.size, 0, none⟩)) (by kernel_rfl) (hK.out _ _ (hX.alloc hX.size _) (fun _ => ?_))
      rw [hF]
      show F _ _ (Act.put _ (some 11) _) _
      rw [actW_11]
      exact ST_4_123.out _ g9 g10 X.heap.size (hX.alloc hX.size _) (rg9.below ((Below.refl _ _).alloc (Nat.le_refl _) _) rg9.lt) bg9 (rg10.below ((Below.refl _ _).alloc (Nat.le_refl _) _) rg10.lt) bg10 (show GRow _ _ _ 0 0 0 from alloc_at _ _) hX.size dg9g10 (Nat.ne_of_lt rg9.lt) (Nat.ne_of_lt rg10.lt)
    exact AllReadyH.nil)
  have ST_4_13 : Hid (∀ (X : World) (g9 g11 : Nat) (hX : Below W1.heap.size W1 X) (rg9 : GRow X g9 24 0 0 0) (bg9 : W1.heap.size ≤ g9) (rg11 : GRow X g11 24 0 0 0) (bg11 : W1.heap.size ≤ g11) (dg9g11 : g9 ≠ g11), F 6 #[true, true, true, true, true, true, true, true, true, true, true, true, false, true, false, true, false, false, false, false] (actW o i e v w0.heap.size undef (.pointer (some ⟨g9, 0, none⟩)) undef (.pointer (some ⟨g11, 0, none⟩)) (gv n i e) (gv o i n) (gv o i e) (gv o i e)) X) := Lib.hid (by
    intro X g9 g11 hX rg9 bg9 rg11 bg11 dg9g11
    rw [← hF]
    refine wpAnyH_ready (rs := [12, 14]) (by kernel_rfl) (by simp) ?_
    refine AllReadyH.cons rfl (fun K hK => ?_) ?_
    · rw [if_pos (by rfl)]
      refine wp_of_run (w' := X.alloc (.cells #[.int .u8 0, .int .u8 0, .int .u8 0] 24)) (.pointer (some ⟨X.heap.size, 0, none⟩)) (by kernel_rfl) (hK.out _ _ (hX.alloc hX.size _) (fun _ => ?_))
      rw [hF]
      show F _ _ (Act.put _ (some 8) _) _
      rw [actW_8]
      exact ST_4_013.out _ X.heap.size g9 g11 (hX.alloc hX.size _) (show GRow _ _ _ 0 0 0 from alloc_at _ _) hX.size (rg9.below ((Below.refl _ _).alloc (Nat.le_refl _) _) rg9.lt) bg9 (rg11.below ((Below.refl _ _).alloc (Nat.le_refl _) _) rg11.lt) bg11 (Nat.ne_of_gt rg9.lt) (Nat.ne_of_gt rg11.lt) dg9g11
    refine AllReadyH.cons rfl (fun K hK => ?_) ?_
    · rw [if_pos (by rfl)]
      refine wp_of_run (w' := X.alloc (.cells #[.int .u8 0, .int .u8 0, .int .u8 0] 24)) (.pointer (some ⟨X.heap.size, 0, none⟩)) (by kernel_rfl) (hK.out _ _ (hX.alloc hX.size _) (fun _ => ?_))
      rw [hF]
      show F _ _ (Act.put _ (some 10) _) _
      rw [actW_10]
      exact ST_4_123.out _ g9 X.heap.size g11 (hX.alloc hX.size _) (rg9.below ((Below.refl _ _).alloc (Nat.le_refl _) _) rg9.lt) bg9 (show GRow _ _ _ 0 0 0 from alloc_at _ _) hX.size (rg11.below ((Below.refl _ _).alloc (Nat.le_refl _) _) rg11.lt) bg11 (Nat.ne_of_lt rg9.lt) dg9g11 (Nat.ne_of_gt rg11.lt)
    exact AllReadyH.nil)
  have ST_4_23 : Hid (∀ (X : World) (g10 g11 : Nat) (hX : Below W1.heap.size W1 X) (rg10 : GRow X g10 24 0 0 0) (bg10 : W1.heap.size ≤ g10) (rg11 : GRow X g11 24 0 0 0) (bg11 : W1.heap.size ≤ g11) (dg10g11 : g10 ≠ g11), F 6 #[true, true, true, true, true, true, true, true, true, true, true, true, false, false, true, true, false, false, false, false] (actW o i e v w0.heap.size undef undef (.pointer (some ⟨g10, 0, none⟩)) (.pointer (some ⟨g11, 0, none⟩)) (gv n i e) (gv o i n) (gv o i e) (gv o i e)) X) := Lib.hid (by
    intro X g10 g11 hX rg10 bg10 rg11 bg11 dg10g11
    rw [← hF]
    refine wpAnyH_ready (rs := [12, 13]) (by kernel_rfl) (by simp) ?_
    refine AllReadyH.cons rfl (fun K hK => ?_) ?_
    · rw [if_pos (by rfl)]
      refine wp_of_run (w' := X.alloc (.cells #[.int .u8 0, .int .u8 0, .int .u8 0] 24)) (.pointer (some ⟨X.heap.size, 0, none⟩)) (by kernel_rfl) (hK.out _ _ (hX.alloc hX.size _) (fun _ => ?_))
      rw [hF]
      show F _ _ (Act.put _ (some 8) _) _
      rw [actW_8]
      exact ST_4_023.out _ X.heap.size g10 g11 (hX.alloc hX.size _) (show GRow _ _ _ 0 0 0 from alloc_at _ _) hX.size (rg10.below ((Below.refl _ _).alloc (Nat.le_refl _) _) rg10.lt) bg10 (rg11.below ((Below.refl _ _).alloc (Nat.le_refl _) _) rg11.lt) bg11 (Nat.ne_of_gt rg10.lt) (Nat.ne_of_gt rg11.lt) dg10g11
    refine AllReadyH.cons rfl (fun K hK => ?_) ?_
    · rw [if_pos (by rfl)]
      refine wp_of_run (w' := X.alloc (.cells #[.int .u8 0, .int .u8 0, .int .u8 0] 24)) (.pointer (some ⟨X.heap.size, 0, none⟩)) (by kernel_rfl) (hK.out _ _ (hX.alloc hX.size _) (fun _ => ?_))
      rw [hF]
      show F _ _ (Act.put _ (some 9) _) _
      rw [actW_9]
      exact ST_4_123.out _ X.heap.size g10 g11 (hX.alloc hX.size _) (show GRow _ _ _ 0 0 0 from alloc_at _ _) hX.size (rg10.below ((Below.refl _ _).alloc (Nat.le_refl _) _) rg10.lt) bg10 (rg11.below ((Below.refl _ _).alloc (Nat.le_refl _) _) rg11.lt) bg11 (Nat.ne_of_gt rg10.lt) (Nat.ne_of_gt rg11.lt) dg10g11
    exact AllReadyH.nil)
  have ST_4_0 : Hid (∀ (X : World) (g8 : Nat) (hX : Below W1.heap.size W1 X) (rg8 : GRow X g8 24 0 0 0) (bg8 : W1.heap.size ≤ g8), F 7 #[true, true, true, true, true, true, true, true, true, true, true, true, true, false, false, false, false, false, false, false] (actW o i e v w0.heap.size (.pointer (some ⟨g8, 0, none⟩)) undef undef undef (gv n i e) (gv o i n) (gv o i e) (gv o i e)) X) := Lib.hid (by
    intro X g8 hX rg8 bg8
    rw [← hF]
    refine wpAnyH_ready (rs := [13, 14, 15]) (by kernel_rfl) (by simp) ?_
    refine AllReadyH.cons rfl (fun K hK => ?_) ?_
    · rw [if_pos (by rfl)]
      refine wp_of_run (w' := X.alloc (.cells #[.int .u8 0, .int .u8 0, .int .u8 0] 24)) (.pointer (some ⟨X.heap.size, 0, none⟩)) (by kernel_rfl) (hK.out _ _ (hX.alloc hX.size _) (fun _ => ?_))
      rw [hF]
      show F _ _ (Act.put _ (some 9) _) _
      rw [actW_9]
      exact ST_4_01.out _ g8 X.heap.size (hX.alloc hX.size _) (rg8.below ((Below.refl _ _).alloc (Nat.le_refl _) _) rg8.lt) bg8 (show GRow _ _ _ 0 0 0 from alloc_at _ _) hX.size (Nat.ne_of_lt rg8.lt)
    refine AllReadyH.cons rfl (fun K hK => ?_) ?_
    · rw [if_pos (by rfl)]
      refine wp_of_run (w' := X.alloc (.cells #[.int .u8 0, .int .u8 0, .int .u8 0] 24)) (.pointer (some ⟨X.heap.size, 0, none⟩)) (by kernel_rfl) (hK.out _ _ (hX.alloc hX.size _) (fun _ => ?_))
      rw [hF]
      show F _ _ (Act.put _ (some 10) _) _
      rw [actW_10]
      exact ST_4_02.out _ g8 X.heap.size (hX.alloc hX.size _) (rg8.below ((Below.refl _ _).alloc (Nat.le_refl _) _) rg8.lt) bg8 (show GRow _ _ _ 0 0 0 from alloc_at _ _) hX.size (Nat.ne_of_lt rg8.lt)
    refine AllReadyH.cons rfl (fun K hK => ?_) ?_
    · rw [if_pos (by rfl)]
      refine wp_of_run (w' := X.alloc (.cells #[.int .u8 0, .int .u8 0, .int .u8 0] 24)) (.pointer (some ⟨X.heap.size, 0, none⟩)) (by kernel_rfl) (hK.out _ _ (hX.alloc hX.size _) (fun _ => ?_))
      rw [hF]
      show F _ _ (Act.put _ (some 11) _) _
      rw [actW_11]
      exact ST_4_03.out _ g8 X.heap.size (hX.alloc hX.size _) (rg8.below ((Below.refl _ _).alloc (Nat.le_refl _) _) rg8.lt) bg8 (show GRow _ _ _ 0 0 0 from alloc_at _ _) hX.size (Nat.ne_of_lt rg8.lt)
    exact AllReadyH.nil)
  have ST_4_1 : Hid (∀ (X : World) (g9 : Nat) (hX : Below W1.heap.size W1 X) (rg9 : GRow X g9 24 0 0 0) (bg9 : W1.heap.size ≤ g9), F 7 #[true, true, true, true, true, true, true, true, true, true, true, true, false, true, false, false, false, false, false, false] (actW o i e v w0.heap.size undef (.pointer (some ⟨g9, 0, none⟩)) undef undef (gv n i e) (gv o i n) (gv o i e) (gv o i e)) X) := Lib.hid (by
    intro X g9 hX rg9 bg9
    rw [← hF]
    refine wpAnyH_ready (rs := [12, 14, 15]) (by kernel_rfl) (by simp) ?_
    refine AllReadyH.cons rfl (fun K hK => ?_) ?_
    · rw [if_pos (by rfl)]
      refine wp_of_run (w' := X.alloc (.cells #[.int .u8 0, .int .u8 0, .int .u8 0] 24)) (.pointer (some ⟨X.heap.size, 0, none⟩)) (by kernel_rfl) (hK.out _ _ (hX.alloc hX.size _) (fun _ => ?_))
      rw [hF]
      show F _ _ (Act.put _ (some 8) _) _
      rw [actW_8]
      exact ST_4_01.out _ X.heap.size g9 (hX.alloc hX.size _) (show GRow _ _ _ 0 0 0 from alloc_at _ _) hX.size (rg9.below ((Below.refl _ _).alloc (Nat.le_refl _) _) rg9.lt) bg9 (Nat.ne_of_gt rg9.lt)
    refine AllReadyH.cons rfl (fun K hK => ?_) ?_
    · rw [if_pos (by rfl)]
      refine wp_of_run (w' := X.alloc (.cells #[.int .u8 0, .int .u8 0, .int .u8 0] 24)) (.pointer (some ⟨X.heap.size, 0, none⟩)) (by kernel_rfl) (hK.out _ _ (hX.alloc hX.size _) (fun _ => ?_))
      rw [hF]
      show F _ _ (Act.put _ (some 10) _) _
      rw [actW_10]
      exact ST_4_12.out _ g9 X.heap.size (hX.alloc hX.size _) (rg9.below ((Below.refl _ _).alloc (Nat.le_refl _) _) rg9.lt) bg9 (show GRow _ _ _ 0 0 0 from alloc_at _ _) hX.size (Nat.ne_of_lt rg9.lt)
    refine AllReadyH.cons rfl (fun K hK => ?_) ?_
    · rw [if_pos (by rfl)]
      refine wp_of_run (w' := X.alloc (.cells #[.int .u8 0, .int .u8 0, .int .u8 0] 24)) (.pointer (some ⟨X.heap.size, 0, none⟩)) (by kernel_rfl) (hK.out _ _ (hX.alloc hX.size _) (fun _ => ?_))
      rw [hF]
      show F _ _ (Act.put _ (some 11) _) _
      rw [actW_11]
      exact ST_4_13.out _ g9 X.heap.size (hX.alloc hX.size _) (rg9.below ((Below.refl _ _).alloc (Nat.le_refl _) _) rg9.lt) bg9 (show GRow _ _ _ 0 0 0 from alloc_at _ _) hX.size (Nat.ne_of_lt rg9.lt)
    exact AllReadyH.nil)
  have ST_4_2 : Hid (∀ (X : World) (g10 : Nat) (hX : Below W1.heap.size W1 X) (rg10 : GRow X g10 24 0 0 0) (bg10 : W1.heap.size ≤ g10), F 7 #[true, true, true, true, true, true, true, true, true, true, true, true, false, false, true, false, false, false, false, false] (actW o i e v w0.heap.size undef undef (.pointer (some ⟨g10, 0, none⟩)) undef (gv n i e) (gv o i n) (gv o i e) (gv o i e)) X) := Lib.hid (by
    intro X g10 hX rg10 bg10
    rw [← hF]
    refine wpAnyH_ready (rs := [12, 13, 15]) (by kernel_rfl) (by simp) ?_
    refine AllReadyH.cons rfl (fun K hK => ?_) ?_
    · rw [if_pos (by rfl)]
      refine wp_of_run (w' := X.alloc (.cells #[.int .u8 0, .int .u8 0, .int .u8 0] 24)) (.pointer (some ⟨X.heap.size, 0, none⟩)) (by kernel_rfl) (hK.out _ _ (hX.alloc hX.size _) (fun _ => ?_))
      rw [hF]
      show F _ _ (Act.put _ (some 8) _) _
      rw [actW_8]
      exact ST_4_02.out _ X.heap.size g10 (hX.alloc hX.size _) (show GRow _ _ _ 0 0 0 from alloc_at _ _) hX.size (rg10.below ((Below.refl _ _).alloc (Nat.le_refl _) _) rg10.lt) bg10 (Nat.ne_of_gt rg10.lt)
    refine AllReadyH.cons rfl (fun K hK => ?_) ?_
    · rw [if_pos (by rfl)]
      refine wp_of_run (w' := X.alloc (.cells #[.int .u8 0, .int .u8 0, .int .u8 0] 24)) (.pointer (some ⟨X.heap.size, 0, none⟩)) (by kernel_rfl) (hK.out _ _ (hX.alloc hX.size _) (fun _ => ?_))
      rw [hF]
      show F _ _ (Act.put _ (some 9) _) _
      rw [actW_9]
      exact ST_4_12.out _ X.heap.size g10 (hX.alloc hX.size _) (show GRow _ _ _ 0 0 0 from alloc_at _ _) hX.size (rg10.below ((Below.refl _ _).alloc (Nat.le_refl _) _) rg10.lt) bg10 (Nat.ne_of_gt rg10.lt)
    refine AllReadyH.cons rfl (fun K hK => ?_) ?_
    · rw [if_pos (by rfl)]
      refine wp_of_run (w' := X.alloc (.cells #[.int .u8 0, .int .u8 0, .int .u8 0] 24)) (.pointer (some ⟨X.heap.size, 0, none⟩)) (by kernel_rfl) (hK.out _ _ (hX.alloc hX.size _) (fun _ => ?_))
      rw [hF]
      show F _ _ (Act.put _ (some 11) _) _
      rw [actW_11]
      exact ST_4_23.out _ g10 X.heap.size (hX.alloc hX.size _) (rg10.below ((Below.refl _ _).alloc (Nat.le_refl _) _) rg10.lt) bg10 (show GRow _ _ _ 0 0 0 from alloc_at _ _) hX.size (Nat.ne_of_lt rg10.lt)
    exact AllReadyH.nil)
  have ST_4_3 : Hid (∀ (X : World) (g11 : Nat) (hX : Below W1.heap.size W1 X) (rg11 : GRow X g11 24 0 0 0) (bg11 : W1.heap.size ≤ g11), F 7 #[true, true, true, true, true, true, true, true, true, true, true, true, false, false, false, true, false, false, false, false] (actW o i e v w0.heap.size undef undef undef (.pointer (some ⟨g11, 0, none⟩)) (gv n i e) (gv o i n) (gv o i e) (gv o i e)) X) := Lib.hid (by
    intro X g11 hX rg11 bg11
    rw [← hF]
    refine wpAnyH_ready (rs := [12, 13, 14]) (by kernel_rfl) (by simp) ?_
    refine AllReadyH.cons rfl (fun K hK => ?_) ?_
    · rw [if_pos (by rfl)]
      refine wp_of_run (w' := X.alloc (.cells #[.int .u8 0, .int .u8 0, .int .u8 0] 24)) (.pointer (some ⟨X.heap.size, 0, none⟩)) (by kernel_rfl) (hK.out _ _ (hX.alloc hX.size _) (fun _ => ?_))
      rw [hF]
      show F _ _ (Act.put _ (some 8) _) _
      rw [actW_8]
      exact ST_4_03.out _ X.heap.size g11 (hX.alloc hX.size _) (show GRow _ _ _ 0 0 0 from alloc_at _ _) hX.size (rg11.below ((Below.refl _ _).alloc (Nat.le_refl _) _) rg11.lt) bg11 (Nat.ne_of_gt rg11.lt)
    refine AllReadyH.cons rfl (fun K hK => ?_) ?_
    · rw [if_pos (by rfl)]
      refine wp_of_run (w' := X.alloc (.cells #[.int .u8 0, .int .u8 0, .int .u8 0] 24)) (.pointer (some ⟨X.heap.size, 0, none⟩)) (by kernel_rfl) (hK.out _ _ (hX.alloc hX.size _) (fun _ => ?_))
      rw [hF]
      show F _ _ (Act.put _ (some 9) _) _
      rw [actW_9]
      exact ST_4_13.out _ X.heap.size g11 (hX.alloc hX.size _) (show GRow _ _ _ 0 0 0 from alloc_at _ _) hX.size (rg11.below ((Below.refl _ _).alloc (Nat.le_refl _) _) rg11.lt) bg11 (Nat.ne_of_gt rg11.lt)
    refine AllReadyH.cons rfl (fun K hK => ?_) ?_
    · rw [if_pos (by rfl)]
      refine wp_of_run (w' := X.alloc (.cells #[.int .u8 0, .int .u8 0, .int .u8 0] 24)) (.pointer (some ⟨X.heap.size, 0, none⟩)) (by kernel_rfl) (hK.out _ _ (hX.alloc hX.size _) (fun _ => ?_))
      rw [hF]
      show F _ _ (Act.put _ (some 10) _) _
      rw [actW_10]
      exact ST_4_23.out _ X.heap.size g11 (hX.alloc hX.size _) (show GRow _ _ _ 0 0 0 from alloc_at _ _) hX.size (rg11.below ((Below.refl _ _).alloc (Nat.le_refl _) _) rg11.lt) bg11 (Nat.ne_of_gt rg11.lt)
    exact AllReadyH.nil)
  have ST_4_ : Hid (∀ (X : World) (hX : Below W1.heap.size W1 X), F 8 #[true, true, true, true, true, true, true, true, true, true, true, true, false, false, false, false, false, false, false, false] (actW o i e v w0.heap.size undef undef undef undef (gv n i e) (gv o i n) (gv o i e) (gv o i e)) X) := Lib.hid (by
    intro X  hX
    rw [← hF]
    refine wpAnyH_ready (rs := [12, 13, 14, 15]) (by kernel_rfl) (by simp) ?_
    refine AllReadyH.cons rfl (fun K hK => ?_) ?_
    · rw [if_pos (by rfl)]
      refine wp_of_run (w' := X.alloc (.cells #[.int .u8 0, .int .u8 0, .int .u8 0] 24)) (.pointer (some ⟨X.heap.size, 0, none⟩)) (by kernel_rfl) (hK.out _ _ (hX.alloc hX.size _) (fun _ => ?_))
      rw [hF]
      show F _ _ (Act.put _ (some 8) _) _
      rw [actW_8]
      exact ST_4_0.out _ X.heap.size (hX.alloc hX.size _) (show GRow _ _ _ 0 0 0 from alloc_at _ _) hX.size
    refine AllReadyH.cons rfl (fun K hK => ?_) ?_
    · rw [if_pos (by rfl)]
      refine wp_of_run (w' := X.alloc (.cells #[.int .u8 0, .int .u8 0, .int .u8 0] 24)) (.pointer (some ⟨X.heap.size, 0, none⟩)) (by kernel_rfl) (hK.out _ _ (hX.alloc hX.size _) (fun _ => ?_))
      rw [hF]
      show F _ _ (Act.put _ (some 9) _) _
      rw [actW_9]
      exact ST_4_1.out _ X.heap.size (hX.alloc hX.size _) (show GRow _ _ _ 0 0 0 from alloc_at _ _) hX.size
    refine AllReadyH.cons rfl (fun K hK => ?_) ?_
    · rw [if_pos (by rfl)]
      refine wp_of_run (w' := X.alloc (.cells #[.int .u8 0, .int .u8 0, .int .u8 0] 24)) (.pointer (some ⟨X.heap.size, 0, none⟩)) (by kernel_rfl) (hK.out _ _ (hX.alloc hX.size _) (fun _ => ?_))
      rw [hF]
      show F _ _ (Act.put _ (some 10) _) _
      rw [actW_10]
      exact ST_4_2.out _ X.heap.size (hX.alloc hX.size _) (show GRow _ _ _ 0 0 0 from alloc_at _ _) hX.size
    refine AllReadyH.cons rfl (fun K hK => ?_) ?_
    · rw [if_pos (by rfl)]
      refine wp_of_run (w' := X.alloc (.cells #[.int .u8 0, .int .u8 0, .int .u8 0] 24)) (.pointer (some ⟨X.heap.size, 0, none⟩)) (by kernel_rfl) (hK.out _ _ (hX.alloc hX.size _) (fun _ => ?_))
      rw [hF]
      show F _ _ (Act.put _ (some 11) _) _
      rw [actW_11]
      exact ST_4_3.out _ X.heap.size (hX.alloc hX.size _) (show GRow _ _ _ 0 0 0 from alloc_at _ _) hX.size
    exact AllReadyH.nil)
  have ST_3_0123 : Hid (∀ (X : World) (g8 g9 g10 g11 : Nat) (hX : Below W1.heap.size W1 X) (rg8 : GRow X g8 24 0 0 0) (bg8 : W1.heap.size ≤ g8) (rg9 : GRow X g9 24 0 0 0) (bg9 : W1.heap.size ≤ g9) (rg10 : GRow X g10 24 0 0 0) (bg10 : W1.heap.size ≤ g10) (rg11 : GRow X g11 24 0 0 0) (bg11 : W1.heap.size ≤ g11) (dg8g9 : g8 ≠ g9) (dg8g10 : g8 ≠ g10) (dg8g11 : g8 ≠ g11) (dg9g10 : g9 ≠ g10) (dg9g11 : g9 ≠ g11) (dg10g11 : g10 ≠ g11), F 5 #[true, true, true, true, true, true, true, true, true, true, true, false, true, true, true, true, false, false, false, false] (actW o i e v w0.heap.size (.pointer (some ⟨g8, 0, none⟩)) (.pointer (some ⟨g9, 0, none⟩)) (.pointer (some ⟨g10, 0, none⟩)) (.pointer (some ⟨g11, 0, none⟩)) (gv n i e) (gv o i n) (gv o i e) undef) X) := Lib.hid (by
    intro X g8 g9 g10 g11 hX rg8 bg8 rg9 bg9 rg10 bg10 rg11 bg11 dg8g9 dg8g10 dg8g11 dg9g10 dg9g11 dg10g11
    rw [← hF]
    refine wpAnyH_ready (rs := [11]) (by kernel_rfl) (by simp) ?_
    refine AllReadyH.cons rfl (fun K hK => ?_) ?_
    · rw [if_pos (by rfl)]
      refine wp_call_ret 6 _ _ rfl _ (by rfl) (by kernel_rfl) _ (K3.out _) (fun X2 hB => hK.out _ _ (hX.trans (hB.mono hX.size)) (fun _ => ?_))
      rw [hF]
      show F _ _ (Act.put _ (some 31) _) _
      rw [actW_31]
      exact ST_4_0123.out X2 g8 g9 g10 g11 (hX.trans (hB.mono hX.size)) (rg8.below hB rg8.lt) bg8 (rg9.below hB rg9.lt) bg9 (rg10.below hB rg10.lt) bg10 (rg11.below hB rg11.lt) bg11 dg8g9 dg8g10 dg8g11 dg9g10 dg9g11 dg10g11
    exact AllReadyH.nil)
  have ST_3_012 : Hid (∀ (X : World) (g8 g9 g10 : Nat) (hX : Below W1.heap.size W1 X) (rg8 : GRow X g8 24 0 0 0) (bg8 : W1.heap.size ≤ g8) (rg9 : GRow X g9 24 0 0 0) (bg9 : W1.heap.size ≤ g9) (rg10 : GRow X g10 24 0 0 0) (bg10 : W1.heap.size ≤ g10) (dg8g9 : g8 ≠ g9) (dg8g10 : g8 ≠ g10) (dg9g10 : g9 ≠ g10), F 6 #[true, true, true, true, true, true, true, true, true, true, true, false, true, true, true, false, false, false, false, false] (actW o i e v w0.heap.size (.pointer (some ⟨g8, 0, none⟩)) (.pointer (some ⟨g9, 0, none⟩)) (.pointer (some ⟨g10, 0, none⟩)) undef (gv n i e) (gv o i n) (gv o i e) undef) X) := Lib.hid (by
    intro X g8 g9 g10 hX rg8 bg8 rg9 bg9 rg10 bg10 dg8g9 dg8g10 dg9g10
    rw [← hF]
    refine wpAnyH_ready (rs := [11, 15]) (by kernel_rfl) (by simp) ?_
    refine AllReadyH.cons rfl (fun K hK => ?_) ?_
    · rw [if_pos (by rfl)]
      refine wp_call_ret 6 _ _ rfl _ (by rfl) (by kernel_rfl) _ (K3.out _) (fun X2 hB => hK.out _ _ (hX.trans (hB.mono hX.size)) (fun _ => ?_))
      rw [hF]
      show F _ _ (Act.put _ (some 31) _) _
      rw [actW_31]
      exact ST_4_012.out X2 g8 g9 g10 (hX.trans (hB.mono hX.size)) (rg8.below hB rg8.lt) bg8 (rg9.below hB rg9.lt) bg9 (rg10.below hB rg10.lt) bg10 dg8g9 dg8g10 dg9g10
    refine AllReadyH.cons rfl (fun K hK => ?_) ?_
    · rw [if_pos (by rfl)]
      refine wp_of_run (w' := X.alloc (.cells #[.int .u8 0, .int .u8 0, .int .u8 0] 24)) (.pointer (some ⟨X.heap.size, 0, none⟩)) (by kernel_rfl) (hK.out _ _ (hX.alloc hX.size _) (fun _ => ?_))
      rw [hF]
      show F _ _ (Act.put _ (some 11) _) _
      rw [actW_11]
      exact ST_3_0123.out _ g8 g9 g10 X.heap.size (hX.alloc hX.size _) (rg8.below ((Below.refl _ _).alloc (Nat.le_refl _) _) rg8.lt) bg8 (rg9.below ((Below.refl _ _).alloc (Nat.le_refl _) _) rg9.lt) bg9 (rg10.below ((Below.refl _ _).alloc (Nat.le_refl _) _) rg10.lt) bg10 (show GRow _ _ _ 0 0 0 from alloc_at _ _) hX.size dg8g9 dg8g10 (Nat.ne_of_lt rg8.lt) dg9g10 (Nat.ne_of_lt rg9.lt) (Nat.ne_of_lt rg10.lt)
    exact AllReadyH.nil)
  have ST_3_013 : Hid (∀ (X : World) (g8 g9 g11 : Nat) (hX : Below W1.heap.size W1 X) (rg8 : GRow X g8 24 0 0 0) (bg8 : W1.heap.size ≤ g8) (rg9 : GRow X g9 24 0 0 0) (bg9 : W1.heap.size ≤ g9) (rg11 : GRow X g11 24 0 0 0) (bg11 : W1.heap.size ≤ g11) (dg8g9 : g8 ≠ g9) (dg8g11 : g8 ≠ g11) (dg9g11 : g9 ≠ g11), F 6 #[true, true, true, true, true, true, true, true, true, true, true, false, true, true, false, true, false, false, false, false] (actW o i e v w0.heap.size (.pointer (some ⟨g8, 0, none⟩)) (.pointer (some ⟨g9, 0, none⟩)) undef (.pointer (some ⟨g11, 0, none⟩)) (gv n i e) (gv o i n) (gv o i e) undef) X) := Lib.hid (by
    intro X g8 g9 g11 hX rg8 bg8 rg9 bg9 rg11 bg11 dg8g9 dg8g11 dg9g11
    rw [← hF]
    refine wpAnyH_ready (rs := [11, 14]) (by kernel_rfl) (by simp) ?_
    refine AllReadyH.cons rfl (fun K hK => ?_) ?_
    · rw [if_pos (by rfl)]
      refine wp_call_ret 6 _ _ rfl _ (by rfl) (by kernel_rfl) _ (K3.out _) (fun X2 hB => hK.out _ _ (hX.trans (hB.mono hX.size)) (fun _ => ?_))
      rw [hF]
      show F _ _ (Act.put _ (some 31) _) _
      rw [actW_31]
      exact ST_4_013.out X2 g8 g9 g11 (hX.trans (hB.mono hX.size)) (rg8.below hB rg8.lt) bg8 (rg9.below hB rg9.lt) bg9 (rg11.below hB rg11.lt) bg11 dg8g9 dg8g11 dg9g11
    refine AllReadyH.cons rfl (fun K hK => ?_) ?_
    · rw [if_pos (by rfl)]
      refine wp_of_run (w' := X.alloc (.cells #[.int .u8 0, .int .u8 0, .int .u8 0] 24)) (.pointer (some ⟨X.heap.size, 0, none⟩)) (by kernel_rfl) (hK.out _ _ (hX.alloc hX.size _) (fun _ => ?_))
      rw [hF]
      show F _ _ (Act.put _ (some 10) _) _
      rw [actW_10]
      exact ST_3_0123.out _ g8 g9 X.heap.size g11 (hX.alloc hX.size _) (rg8.below ((Below.refl _ _).alloc (Nat.le_refl _) _) rg8.lt) bg8 (rg9.below ((Below.refl _ _).alloc (Nat.le_refl _) _) rg9.lt) bg9 (show GRow _ _ _ 0 0 0 from alloc_at _ _) hX.size (rg11.below ((Below.refl _ _).alloc (Nat.le_refl _) _) rg11.lt) bg11 dg8g9 (Nat.ne_of_lt rg8.lt) dg8g11 (Nat.ne_of_lt rg9.lt) dg9g11 (Nat.ne_of_gt rg11.lt)
    exact AllReadyH.nil)
  have ST_3_023 : Hid (∀ (X : World) (g8 g10 g11 : Nat) (hX : Below W1.heap.size W1 X) (rg8 : GRow X g8 24 0 0 0) (bg8 : W1.heap.size ≤ g8) (rg10 : GRow X g10 24 0 0 0) (bg10 : W1.heap.size ≤ g10) (rg11 : GRow X g11 24 0 0 0) (bg11 : W1.heap.size ≤ g11) (dg8g10 : g8 ≠ g10) (dg8g11 : g8 ≠ g11) (dg10g11 : g10 ≠ g11), F 6 #[true, true, true, true, true, true, true, true, true, true, true, false, true, false, true, true, false, false, false, false] (actW o i e v w0.heap.size (.pointer (some ⟨g8, 0, none⟩)) undef (.pointer (some ⟨g10, 0, none⟩)) (.pointer (some ⟨g11, 0, none⟩)) (gv n i e) (gv o i n) (gv o i e) undef) X) := Lib.hid (by
    intro X g8 g10 g11 hX rg8 bg8 rg10 bg10 rg11 bg11 dg8g10 dg8g11 dg10g11
    rw [← hF]
    refine wpAnyH_ready (rs := [11, 13]) (by kernel_rfl) (by simp) ?_
    refine AllReadyH.cons rfl (fun K hK => ?_) ?_
    · rw [if_pos (by rfl)]
      refine wp_call_ret 6 _ _ rfl _ (by rfl) (by kernel_rfl) _ (K3.out _) (fun X2 hB => hK.out _ _ (hX.trans (hB.mono hX.size)) (fun _ => ?_))
      rw [hF]
      show F _ _ (Act.put _ (some 31) _) _
      rw [actW_31]
      exact ST_4_023.out X2 g8 g10 g11 (hX.trans (hB.mono hX.size)) (rg8.below hB rg8.lt) bg8 (rg10.below hB rg10.lt) bg10 (rg11.below hB rg11.lt) bg11 dg8g10 dg8g11 dg10g11
    refine AllReadyH.cons rfl (fun K hK => ?_) ?_
    · rw [if_pos (by rfl)]
      refine wp_of_run (w' := X.alloc (.cells #[.int .u8 0, .int .u8 0, .int .u8 0] 24)) (.pointer (some ⟨X.heap.size, 0, none⟩)) (by kernel_rfl) (hK.out _ _ (hX.alloc hX.size _) (fun _ => ?_))
      rw [hF]
      show F _ _ (Act.put _ (some 9) _) _
      rw [actW_9]
      exact ST_3_0123.out _ g8 X.heap.size g10 g11 (hX.alloc hX.size _) (rg8.below ((Below.refl _ _).alloc (Nat.le_refl _) _) rg8.lt) bg8 (show GRow _ _ _ 0 0 0 from alloc_at _ _) hX.size (rg10.below ((Below.refl _ _).alloc (Nat.le_refl _) _) rg10.lt) bg10 (rg11.below ((Below.refl _ _).alloc (Nat.le_refl _) _) rg11.lt) bg11 (Nat.ne_of_lt rg8.lt) dg8g10 dg8g11 (Nat.ne_of_gt rg10.lt) (Nat.ne_of_gt rg11.lt) dg10g11
    exact AllReadyH.nil)
  have ST_3_123 : Hid (∀ (X : World) (g9 g10 g11 : Nat) (hX : Below W1.heap.size W1 X) (rg9 : GRow X g9 24 0 0 0) (bg9 : W1.heap.size ≤ g9) (rg10 : GRow X g10 24 0 0 0) (bg10 : W1.heap.size ≤ g10) (rg11 : GRow X g11 24 0 0 0) (bg11 : W1.heap.size ≤ g11) (dg9g10 : g9 ≠ g10) (dg9g11 : g9 ≠ g11) (dg10g11 : g10 ≠ g11), F 6 #[true, true, true, true, true, true, true, true, true, true, true, false, false, true, true, true, false, false, false, false] (actW o i e v w0.heap.size undef (.pointer (some ⟨g9, 0, none⟩)) (.pointer (some ⟨g10, 0, none⟩)) (.pointer (some ⟨g11, 0, none⟩)) (gv n i e) (gv o i n) (gv o i e) undef) X) := Lib.hid (by
    intro X g9 g10 g11 hX rg9 bg9 rg10 bg10 rg11 bg11 dg9g10 dg9g11 dg10g11
    rw [← hF]
    refine wpAnyH_ready (rs := [11, 12]) (by kernel_rfl) (by simp) ?_
    refine AllReadyH.cons rfl (fun K hK => ?_) ?_
    · rw [if_pos (by rfl)]
      refine wp_call_ret 6 _ _ rfl _ (by rfl) (by kernel_rfl) _ (K3.out _) (fun X2 hB => hK.out _ _ (hX.trans (hB.mono hX.size)) (fun _ => ?_))
      rw [hF]
      show F _ _ (Act.put _ (some 31) _) _
      rw [actW_31]
      exact ST_4_123.out X2 g9 g10 g11 (hX.trans (hB.mono hX.size)) (rg9.below hB rg9.lt) bg9 (rg10.below hB rg10.lt) bg10 (rg11.below hB rg11.lt) bg11 dg9g10 dg9g11 dg10g11
    refine AllReadyH.cons rfl (fun K hK => ?_) ?_
    · rw [if_pos (by rfl)]
      refine wp_of_run (w' := X.alloc (.cells #[.int .u8 0, .int .u8 0, .int .u8 0] 24)) (.pointer (some ⟨X.heap.size, 0, none⟩)) (by kernel_rfl) (hK.out _ _ (hX.alloc hX.size _) (fun _ => ?_))
      rw [hF]
      show F _ _ (Act.put _ (some 8) _) _
      rw [actW_8]
      exact ST_3_0123.out _ X.heap.size g9 g10 g11 (hX.alloc hX.size _) (show GRow _ _ _ 0 0 0 from alloc_at _ _) hX.size (rg9.below ((Below.refl _ _).alloc (Nat.le_refl _) _) rg9.lt) bg9 (rg10.below ((Below.refl _ _).alloc (Nat.le_refl _) _) rg10.lt) bg10 (rg11.below ((Below.refl _ _).alloc (Nat.le_refl _) _) rg11.lt) bg11 (Nat.ne_of_gt rg9.lt) (Nat.ne_of_gt rg10.lt) (Nat.ne_of_gt rg11.lt) dg9g10 dg9g11 dg10g11
    exact AllReadyH.nil)
  have ST_3_01 : Hid (∀ (X : World) (g8 g9 : Nat) (hX : Below W1.heap.size W1 X) (rg8 : GRow X g8 24 0 0 0) (bg8 : W1.heap.size ≤ g8) (rg9 : GRow X g9 24 0 0 0) (bg9 : W1.heap.size ≤ g9) (dg8g9 : g8 ≠ g9), F 7 #[true, true, true, true, true, true, true, true, true, true, true, false, true, true, false, false, false, false, false, false] (actW o i e v w0.heap.size (.pointer (some ⟨g8, 0, none⟩)) (.pointer (some ⟨g9, 0, none⟩)) undef undef (gv n i e) (gv o i n) (gv o i e) undef) X) := Lib.hid (by
    intro X g8 g9 hX rg8 bg8 rg9 bg9 dg8g9
    rw [← hF]
    refine wpAnyH_ready (rs := [11, 14, 15]) (by kernel_rfl) (by simp) ?_
    refine AllReadyH.cons rfl (fun K hK => ?_) ?_
    · rw [if_pos (by rfl)]
      refine wp_call_ret 6 _ _ rfl _ (by rfl) (by kernel_rfl) _ (K3.out _) (fun X2 hB => hK.out _ _ (hX.trans (hB.mono hX.size)) (fun _ => ?_))
      rw [hF]
      show F _ _ (Act.put _ (some 31) _) _
      rw [actW_31]
      exact ST_4_01.out X2 g8 g9 (hX.trans (hB.mono hX.size)) (rg8.below hB rg8.lt) bg8 (rg9.below hB rg9.lt) bg9 dg8g9
    refine AllReadyH.cons rfl (fun K hK => ?_) ?_
    · rw [if_pos (by rfl)]
      refine wp_of_run (w' := X.alloc (.cells #[.int .u8 0, .int .u8 0, .int .u8 0] 24)) (.pointer (some ⟨X.heap.size, 0, none⟩)) (by kernel_rfl) (hK.out _ _ (hX.alloc hX.size _) (fun _ => ?_))
      rw [hF]
      show F _ _ (Act.put _ (some 10) _) _
      rw [actW_10]
      exact ST_3_012.out _ g8 g9 X.heap.size (hX.alloc hX.size _) (rg8.below ((Below.refl _ _).alloc (Nat.le_refl _) _) rg8.lt) bg8 (rg9.below ((Below.refl _ _).alloc (Nat.le_refl _) _) rg9.lt) bg9 (show GRow _ _ _ 0 0 0 from alloc_at _ _) hX.size dg8g9 (Nat.ne_of_lt rg8.lt) (Nat.ne_of_lt rg9.lt)
    refine AllReadyH.cons rfl (fun K hK => ?_) ?_
    · rw [if_pos (by rfl)]
      refine wp_of_run (w' := X.alloc (.cells #[.int .u8 0, .int .u8 0, .int .u8 0] 24)) (.pointer (some ⟨X.heap.size, 0, none⟩)) (by kernel_rfl) (hK.out _ _ (hX.alloc hX.size _) (fun _ => ?_))
      rw [hF]
      show F _ _ (Act.put _ (some 11) _) _
      rw [actW_11]
      exact ST_3_013.out _ g8 g9 X.heap.size (hX.alloc hX.size _) (rg8.below ((Below.refl _ _).alloc (Nat.le_refl _) _) rg8.lt) bg8 (rg9.below ((Below.refl _ _).alloc (Nat.le_refl _) _) rg9.lt) bg9 (show GRow _ _ _ 0 0 0 from alloc_at _ _) hX.size dg8g9 (Nat.ne_of_lt rg8.lt) (Nat.ne_of_lt rg9.lt)
    exact AllReadyH.nil)
  have ST_3_02 : Hid (∀ (X : World) (g8 g10 : Nat) (hX : Below W1.heap.size W1 X) (rg8 : GRow X g8 24 0 0 0) (bg8 : W1.heap.size ≤ g8) (rg10 : GRow X g10 24 0 0 0) (bg10 : W1.heap.size ≤ g10) (dg8g10 : g8 ≠ g10), F 7 #[true, true, true, true, true, true, true, true, true, true, true, false, true, false, true, false, false, false, false, false] (actW o i e v w0.heap.size (.pointer (some ⟨g8, 0, none⟩)) undef (.pointer (some ⟨g10, 0, none⟩)) undef (gv n i e) (gv o i n) (gv o i e) undef) X) := Lib.hid (by
    intro X g8 g10 hX rg8 bg8 rg10 bg10 dg8g10
    rw [← hF]
    refine wpAnyH_ready (rs := [11, 13, 15]) (by kernel_rfl) (by simp) ?_
    refine AllReadyH.cons rfl (fun K hK => ?_) ?_
    · rw [if_pos (by rfl)]
      refine wp_call_ret 6 _ _ rfl _ (by rfl) (by kernel_rfl) _ (K3.out _) (fun X2 hB => hK.out _ _ (hX.trans (hB.mono hX.size)) (fun _ => ?_))
      rw [hF]
      show F _ _ (Act.put _ (some 31) _) _
      rw [actW_31]
      exact ST_4_02.out X2 g8 g10 (hX.trans (hB.mono hX.size)) (rg8.below hB rg8.lt) bg8 (rg10.below hB rg10.lt) bg10 dg8g10
    refine AllReadyH.cons rfl (fun K hK => ?_) ?_
    · rw [if_pos (by rfl)]
      refine wp_of_run (w' := X.alloc (.cells #[.int .u8 0, .int .u8 0, .int .u8 0] 24)) (.pointer (some ⟨X.heap.size, 0, none⟩)) (by kernel_rfl) (hK.out _ _ (hX.alloc hX.size _) (fun _ => ?_))
      rw [hF]
      show F _ _ (Act.put _ (some 9) _) _
      rw [actW_9]
      exact ST_3_012.out _ g8 X.heap.size g10 (hX.alloc hX.size _) (rg8.below ((Below.refl _ _).alloc (Nat.le_refl _) _) rg8.lt) bg8 (show GRow _ _ _ 0 0 0 from alloc_at _ _) hX.size (rg10.below ((Below.refl _ _).alloc (Nat.le_refl _) _) rg10.lt) bg10 (Nat.ne_of_lt rg8.lt) dg8g10 (Nat.ne_of_gt rg10.lt)
    refine AllReadyH.cons rfl (fun K hK => ?_) ?_
    · rw [if_pos (by rfl)]
      refine wp_of_run (w' := X.alloc (.cells #[.int .u8 0, .int .u8 0, .int .u8 0] 24)) (.pointer (some ⟨X.heap.size, 0, none⟩)) (by kernel_rfl) (hK.out _ _ (hX.alloc hX.size _) (fun _ => ?_))
      rw [hF]
      show F _ _ (Act.put _ (some 11) _) _
      rw [actW_11]
      exact ST_3_023.out _ g8 g10 X.heap.size (hX.alloc hX.size _) (rg8.below ((Below.refl _ _).alloc (Nat.le_refl _) _) rg8.lt) bg8 (rg10.below ((Below.refl _ _).alloc (Nat.le_refl _) _) rg10.lt) bg10 (show GRow _ _ _ 0 0 0 from alloc_at _ _) hX.size dg8g10 (Nat.ne_of_lt rg8.lt) (Nat.ne_of_lt rg10.lt)
    exact AllReadyH.nil)
  have ST_3_03 : Hid (∀ (X : World) (g8 g11 : Nat) (hX : Below W1.heap.size W1 X) (rg8 : GRow X g8 24 0 0 0) (bg8 : W1.heap.size ≤ g8) (rg11 : GRow X g11 24 0 0 0) (bg11 : W1.heap.size ≤ g11) (dg8g11 : g8 ≠ g11), F 7 #[true, true, true, true, true, true, true, true, true, true, true, false, true, false, false, true, false, false, false, false] (actW o i e v w0.heap.size (.pointer (some ⟨g8, 0, none⟩)) undef undef (.pointer (some ⟨g11, 0, none⟩)) (gv n i e) (gv o i n) (gv o i e) undef) X) := Lib.hid (by
    intro X g8 g11 hX rg8 bg8 rg11 bg11 dg8g11
    rw [← hF]
    refine wpAnyH_ready (rs := [11, 13, 14]) (by kernel_rfl) (by simp) ?_
    refine AllReadyH.cons rfl (fun K hK => ?_) ?_
    · rw [if_pos (by rfl)]
      refine wp_call_ret 6 _ _ rfl _ (by rfl) (by kernel_rfl) _ (K3.out _) (fun X2 hB => hK.out _ _ (hX.trans (hB.mono hX.size)) (fun _ => ?_))
      rw [hF]
      show F _ _ (Act.put _ (some 31) _) _
      rw [actW_31]
      exact ST_4_03.out X2 g8 g11 (hX.trans (hB.mono hX.size)) (rg8.below hB rg8.lt) bg8 (rg11.below hB rg11.lt) bg11 dg8g11
    refine AllReadyH.cons rfl (fun K hK => ?_) ?_
    · rw [if_pos (by rfl)]
      refine wp_of_run (w' := X.alloc (.cells #[.int .u8 0, .int .u8 0, .int .u8 0] 24)) (.pointer (some ⟨X.heap.size, 0, none⟩)) (by kernel_rfl) (hK.out _ _ (hX.alloc hX.size _) (fun _ => ?_))
      rw [hF]
      show F _ _ (Act.put _ (some 9) _) _
      rw [actW_9]
      exact ST_3_013.out _ g8 X.heap.size g11 (hX.alloc hX.size _) (rg8.below ((Below.refl _ _).alloc (Nat.le_refl _) _) rg8.lt) bg8 (show GRow _ _ _ 0 0 0 from alloc_at _ _) hX.size (rg11.below ((Below.refl _ _).alloc (Nat.le_refl _) _) rg11.lt) bg11 (Nat.ne_of_lt rg8.lt) dg8g11 (Nat.ne_of_gt rg11.lt)
    refine AllReadyH.cons rfl (fun K hK => ?_) ?_
    · rw [if_pos (by rfl)]
      refine wp_of_run (w' := X.alloc (.cells #[.int .u8 0, .int .u8 0, .int .u8 0] 24)) (.pointer (some ⟨X.heap.size, 0, none⟩)) (by kernel_rfl) (hK.out _ _ (hX.alloc hX.size _) (fun _ => ?_))
      rw [hF]
      show F _ _ (Act.put _ (some 10) _) _
      rw [actW_10]
      exact ST_3_023.out _ g8 X.heap.size g11 (hX.alloc hX.size _) (rg8.below ((Below.refl _ _).alloc (Nat.le_refl _) _) rg8.lt) bg8 (show GRow _ _ _ 0 0 0 from alloc_at _ _) hX.size (rg11.below ((Below.refl _ _).alloc (Nat.le_refl _) _) rg11.lt) bg11 (Nat.ne_of_lt rg8.lt) dg8g11 (Nat.ne_of_gt rg11.lt)
    exact AllReadyH.nil)
  have ST_3_12 : Hid (∀ (X : World) (g9 g10 : Nat) (hX : Below W1.heap.size W1 X) (rg9 : GRow X g9 24 0 0 0) (bg9 : W1.heap.size ≤ g9) (rg10 : GRow X g10 24 0 0 0) (bg10 : W1.heap.size ≤ g10) (dg9g10 : g9 ≠ g10), F 7 #[true, true, true, true, true, true, true, true, true, true, true, false, false, true, true, false, false, false, false, false] (actW o i e v w0.heap.size undef (.pointer (some ⟨g9, 0, none⟩)) (.pointer (some ⟨g10, 0, none⟩)) undef (gv n i e) (gv o i n) (gv o i e) undef) X) := Lib.hid (by
    intro X g9 g10 hX rg9 bg9 rg10 bg10 dg9g10
    rw [← hF]
    refine wpAnyH_ready (rs := [11, 12, 15]) (by kernel_rfl) (by simp) ?_
    refine AllReadyH.cons rfl (fun K hK => ?_) ?_
    · rw [if_pos (by rfl)]
      refine wp_call_ret 6 _ _ rfl _ (by rfl) (by kernel_rfl) _ (K3.out _) (fun X2 hB => hK.out _ _ (hX.trans (hB.mono hX.size)) (fun _ => ?_))
      rw [hF]
      show F _ _ (Act.put _ (some 31) _) _
      rw [actW_31]
      exact ST_4_12.out X2 g9 g10 (hX.trans (hB.mono hX.size)) (rg9.below hB rg9.lt) bg9 (rg10.below hB rg10.lt) bg10 dg9g10
    refine AllReadyH.cons rfl (fun K hK => ?_) ?_
    · rw [if_pos (by rfl)]
      refine wp_of_run (w' := X.alloc (.cells #[.int .u8 0, .int .u8 0, .int .u8 0] 24)) (.pointer (some ⟨X.heap.size, 0, none⟩)) (by kernel_rfl) (hK.out _ _ (hX.alloc hX.size _) (fun _ => ?_))
      rw [hF]
      show F _ _ (Act.put _ (some 8) _) _
      rw [actW_8]
      exact ST_3_012.out _ X.heap.size g9 g10 (hX.alloc hX.size _) (show GRow _ _ _ 0 0 0 from alloc_at _ _) hX.size (rg9.below ((Below.refl _ _).alloc (Nat.le_refl _) _) rg9.lt) bg9 (rg10.below ((Below.refl _ _).alloc (Nat.le_refl _) _) rg10.lt) bg10 (Nat.ne_of_gt rg9.lt) (Nat.ne_of_gt rg10.lt) dg9g10
    refine AllReadyH.cons rfl (fun K hK => ?_) ?_
    · rw [if_pos (by rfl)]
      refine wp_of_run (w' := X.alloc (.cells #[.int .u8 0, .int .u8 0, .int .u8 0] 24)) (.pointer (some ⟨X.heap.size, 0, none⟩)) (by kernel_rfl) (hK.out _ _ (hX.alloc hX.size _) (fun _ => ?_))
      rw [hF]
      show F _ _ (Act.put _ (some 11) _) _
      rw [actW_11]
      exact ST_3_123.out _ g9 g10 X.heap.size (hX.alloc hX.size _) (rg9.below ((Below.refl _ _).alloc (Nat.le_refl _) _) rg9.lt) bg9 (rg10.below ((Below.refl _ _).alloc (Nat.le_refl _) _) rg10.lt) bg10 (show GRow _ _ _ 0 0 0 from alloc_at _ _) hX.size dg9g10 (Nat.ne_of_lt rg9.lt) (Nat.ne_of_lt rg10.lt)
    exact AllReadyH.nil)
  have ST_3_13 : Hid (∀ (X : World) (g9 g11 : Nat) (hX : Below W1.heap.size W1 X) (rg9 : GRow X g9 24 0 0 0) (bg9 : W1.heap.size ≤ g9) (rg11 : GRow X g11 24 0 0 0) (bg11 : W1.heap.size ≤ g11) (dg9g11 : g9 ≠ g11), F 7 #[true, true, true, true, true, true, true, true, true, true, true, false, false, true, false, true, false, false, false, false] (actW o i e v w0.heap.size undef (.pointer (some ⟨g9, 0, none⟩)) undef (.pointer (some ⟨g11, 0, none⟩)) (gv n i e) (gv o i n) (gv o i e) undef) X) := Lib.hid (by
    intro X g9 g11 hX rg9 bg9 rg11 bg11 dg9g11
    rw [← hF]
    refine wpAnyH_ready (rs := [11, 12, 14]) (by kernel_rfl) (by simp) ?_
    refine AllReadyH.cons rfl (fun K hK => ?_) ?_
    · rw [if_pos (by rfl)]
      refine wp_call_ret 6 _ _ rfl _ (by rfl) (by kernel_rfl) _ (K3.out _) (fun X2 hB => hK.out _ _ (hX.trans (hB.mono hX.size)) (fun _ => ?_))
      rw [hF]
      show F _ _ (Act.put _ (some 31) _) _
      rw [actW_31]
      exact ST_4_13.out X2 g9 g11 (hX.trans (hB.mono hX.size)) (rg9.below hB rg9.lt) bg9 (rg11.below hB rg11.lt) bg11 dg9g11
    refine AllReadyH.cons rfl (fun K hK => ?_) ?_
    · rw [if_pos (by rfl)]
      refine wp_of_run (w' := X.alloc (.cells #[.int .u8 0, .int .u8 0, .int .u8 0] 24)) (.pointer (some ⟨X.heap.size, 0, none⟩)) (by kernel_rfl) (hK.out _ _ (hX.alloc hX.size _) (fun _ => ?_))
      rw [hF]
      show F _ _ (Act.put _ (some 8) _) _
      rw [actW_8]
      exact ST_3_013.out _ X.heap.size g9 g11 (hX.alloc hX.size _) (show GRow _ _ _ 0 0 0 from alloc_at _ _) hX.size (rg9.below ((Below.refl _ _).alloc (Nat.le_refl _) _) rg9.lt) bg9 (rg11.below ((Below.refl _ _).alloc (Nat.le_refl _) _) rg11.lt) bg11 (Nat.ne_of_gt rg9.lt) (Nat.ne_of_gt rg11.lt) dg9g11
    refine AllReadyH.cons rfl (fun K hK => ?_) ?_
    · rw [if_pos (by rfl)]
      refine wp_of_run (w' := X.alloc (.cells #[.int .u8 0, .int .u8 0, .int .u8 0] 24)) (.pointer (some ⟨X.heap.size, 0, none⟩)) (by kernel_rfl) (hK.out _ _ (hX.alloc hX.size _) (fun _ => ?_))
      rw [hF]
      show F _ _ (Act.put _ (some 10) _) _
      rw [actW_10]
      exact ST_3_123.out _ g9 X.heap.size g11 (hX.alloc hX.size _) (rg9.below ((Below.refl _ _).alloc (Nat.le_refl _) _) rg9.lt) bg9 (show GRow _ _ _ 0 0 0 from alloc_at _ _) hX.size (rg11.below ((Below.refl _ _).alloc (Nat.le_refl _) _) rg11.lt) bg11 (Nat.ne_of_lt rg9.lt) dg9g11 (Nat.ne_of_gt rg11.lt)
    exact AllReadyH.nil)
  have ST_3_23 : Hid (∀ (X : World) (g10 g11 : Nat) (hX : Below W1.heap.size W1 X) (rg10 : GRow X g10 24 0 0 0) (bg10 : W1.heap.size ≤ g10) (rg11 : GRow X g11 24 0 0 0) (bg11 : W1.heap.size ≤ g11) (dg10g11 : g10 ≠ g11), F 7 #[true, true, true, true, true, true, true, true, true, true, true, false, false, false, true, true, false, false, false, false] (actW o i e v w0.heap.size undef undef (.pointer (some ⟨g10, 0, none⟩)) (.pointer (some ⟨g11, 0, none⟩)) (gv n i e) (gv o i n) (gv o i e) undef) X) := Lib.hid (by
    intro X g10 g11 hX rg10 bg10 rg11 bg11 dg10g11
    rw [← hF]
    refine wpAnyH_ready (rs := [11, 12, 13]) (by kernel_rfl) (by simp) ?_
    refine AllReadyH.cons rfl (fun K hK => ?_) ?_
    · rw [if_pos (by rfl)]
      refine wp_call_ret 6 _ _ rfl _ (by rfl) (by kernel_rfl) _ (K3.out _) (fun X2 hB => hK.out _ _ (hX.trans (hB.mono hX.size)) (fun _ => ?_))
      rw [hF]
      show F _ _ (Act.put _ (some 31) _) _
      rw [actW_31]
      exact ST_4_23.out X2 g10 g11 (hX.trans (hB.mono hX.size)) (rg10.below hB rg10.lt) bg10 (rg11.below hB rg11.lt) bg11 dg10g11
    refine AllReadyH.cons rfl (fun K hK => ?_) ?_
    · rw [if_pos (by rfl)]
      refine wp_of_run (w' := X.alloc (.cells #[.int .u8 0, .int .u8 0, .int .u8 0] 24)) (.pointer (some ⟨X.heap.size, 0, none⟩)) (by kernel_rfl) (hK.out _ _ (hX.alloc hX.size _) (fun _ => ?_))
      rw [hF]
      show F _ _ (Act.put _ (some 8) _) _
      rw [actW_8]
      exact ST_3_023.out _ X.heap.size g10 g11 (hX.alloc hX.size _) (show GRow _ _ _ 0 0 0 from alloc_at _ _) hX.size (rg10.below ((Below.refl _ _).alloc (Nat.le_refl _) _) rg10.lt) bg10 (rg11.below ((Below.refl _ _).alloc (Nat.le_refl _) _) rg11.lt) bg11 (Nat.ne_of_gt rg10.lt) (Nat.ne_of_gt rg11.lt) dg10g11
    refine AllReadyH.cons rfl (fun K hK => ?_) ?_
    · rw [if_pos (by rfl)]
      refine wp_of_run (w' := X.alloc (.cells #[.int .u8 0, .int .u8 0, .int .u8 0] 24)) (.pointer (some ⟨X.heap.size, 0, none⟩)) (by kernel_rfl) (hK.out _ _ (hX.alloc hX.size _) (fun _ => ?_))
      rw [hF]
      show F _ _ (Act.put _ (some 9) _) _
      rw [actW_9]
      exact ST_3_123.out _ X.heap.size g10 g11 (hX.alloc hX.size _) (show GRow _ _ _ 0 0 0 from alloc_at _ _) hX.size (rg10.below ((Below.refl _ _).alloc (Nat.le_refl _) _) rg10.lt) bg10 (rg11.below ((Below.refl _ _).alloc (Nat.le_refl _) _) rg11.lt) bg11 (Nat.ne_of_gt rg10.lt) (Nat.ne_of_gt rg11.lt) dg10g11
    exact AllReadyH.nil)
  have ST_3_0 : Hid (∀ (X : World) (g8 : Nat) (hX : Below W1.heap.size W1 X) (rg8 : GRow X g8 24 0 0 0) (bg8 : W1.heap.size ≤ g8), F 8 #[true, true, true, true, true, true, true, true, true, true, true, false, true, false, false, false, false, false, false, false] (actW o i e v w0.heap.size (.pointer (some ⟨g8, 0, none⟩)) undef undef undef (gv n i e) (gv o i n) (gv o i e) undef) X) := Lib.hid (by
    intro X g8 hX rg8 bg8
    rw [← hF]
    refine wpAnyH_ready (rs := [11, 13, 14, 15]) (by kernel_rfl) (by simp) ?_
    refine AllReadyH.cons rfl (fun K hK => ?_) ?_
    · rw [if_pos (by rfl)]
      refine wp_call_ret 6 _ _ rfl _ (by rfl) (by kernel_rfl) _ (K3.out _) (fun X2 hB => hK.out _ _ (hX.trans (hB.mono hX.size)) (fun _ => ?_))
      rw [hF]
      show F _ _ (Act.put _ (some 31) _) _
      rw [actW_31]
      exact ST_4_0.out X2 g8 (hX.trans (hB.mono hX.size)) (rg8.below hB rg8.lt) bg8
    refine AllReadyH.cons rfl (fun K hK => ?_) ?_
    · rw [if_pos (by rfl)]
      refine wp_of_run (w' := X.alloc (.cells #[.int .u8 0, .int .u8 0, .int .u8 0] 24)) (.pointer (some ⟨X.heap.size, 0, none⟩)) (by kernel_rfl) (hK.out _ _ (hX.alloc hX.size _) (fun _ => ?_))
      rw [hF]
      show F _ _ (Act.put _ (some 9) _) _
      rw [actW_9]
      exact ST_3_01.out _ g8 X.heap.size (hX.alloc hX.size _) (rg8.below ((Below.refl _ _).alloc (Nat.le_refl _) _) rg8.lt) bg8 (show GRow _ _ _ 0 0 0 from alloc_at _ _) hX.size (Nat.ne_of_lt rg8.lt)
    refine AllReadyH.cons rfl (fun K hK => ?_) ?_
    · rw [if_pos (by rfl)]
      refine wp_of_run (w' := X.alloc (.cells #[.int .u8 0, .int .u8 0, .int .u8 0] 24)) (.pointer (some ⟨X.heap.size, 0, none⟩)) (by kernel_rfl) (hK.out _ _ (hX.alloc hX.size _) (fun _ => ?_))
      rw [hF]
      show F _ _ (Act.put _ (some 10) _) _
      rw [actW_10]
      exact ST_3_02.out _ g8 X.heap.size (hX.alloc hX.size _) (rg8.below ((Below.refl _ _).alloc (Nat.le_refl _) _) rg8.lt) bg8 (show GRow _ _ _ 0 0 0 from alloc_at _ _) hX.size (Nat.ne_of_lt rg8.lt)
    refine AllReadyH.cons rfl (fun K hK => ?_) ?_
    · rw [if_pos (by rfl)]
      refine wp_of_run (w' := X.alloc (.cells #[.int .u8 0, .int .u8 0, .int .u8 0] 24)) (.pointer (some ⟨X.heap.size, 0, none⟩)) (by kernel_rfl) (hK.out _ _ (hX.alloc hX.size _) (fun _ => ?_))
      rw [hF]
      show F _ _ (Act.put _ (some 11) _) _
      rw [actW_11]
      exact ST_3_03.out _ g8 X.heap.size (hX.alloc hX.size _) (rg8.below ((Below.refl _ _).alloc (Nat.le_refl _) _) rg8.lt) bg8 (show GRow _ _ _ 0 0 0 from alloc_at _ _) hX.size (Nat.ne_of_lt rg8.lt)
    exact AllReadyH.nil)
  have ST_3_1 : Hid (∀ (X : World) (g9 : Nat) (hX : Below W1.heap.size W1 X) (rg9 : GRow X g9 24 0 0 0) (bg9 : W1.heap.size ≤ g9), F 8 #[true, true, true, true, true, true, true, true, true, true, true, false, false, true, false, false, false, false, false, false] (actW o i e v w0.heap.size undef (.pointer (some ⟨g9, 0, none⟩)) undef undef (gv n i e) (gv o i n) (gv o i e) undef) X) := Lib.hid (by
    intro X g9 hX rg9 bg9
    rw [← hF]
    refine wpAnyH_ready (rs := [11, 12, 14, 15]) (by kernel_rfl) (by simp) ?_
    refine AllReadyH.cons rfl (fun K hK => ?_) ?_
    · rw [if_pos (by rfl)]
      refine wp_call_ret 6 _ _ rfl _ (by rfl) (by kernel_rfl) _ (K3.out _) (fun X2 hB => hK.out _ _ (hX.trans (hB.mono hX.size)) (fun _ => ?_))
      rw [hF]
      show F _ _ (Act.put _ (some 31) _) _
      rw [actW_31]
      exact ST_4_1.out X2 g9 (hX.trans (hB.mono hX.size)) (rg9.below hB rg9.lt) bg9
    refine AllReadyH.cons rfl (fun K hK => ?_) ?_
    · rw [if_pos (by rfl)]
      refine wp_of_run (w' := X.alloc (.cells #[.int .u8 0, .int .u8 0, .int .u8 0] 24)) (.pointer (some ⟨X.heap.size, 0, none⟩)) (by kernel_rfl) (hK.out _ _ (hX.alloc hX.size _) (fun _ => ?_))
      rw [hF]
      show F _ _ (Act.put _ (some 8) _) _
      rw [actW_8]
      exact ST_3_01.out _ X.heap.size g9 (hX.alloc hX.size _) (show GRow _ _ _ 0 0 0 from alloc_at _ _) hX.size (rg9.below ((Below.refl _ _).alloc (Nat.le_refl _) _) rg9.lt) bg9 (Nat.ne_of_gt rg9.lt)
    refine AllReadyH.cons rfl (fun K hK => ?_) ?_
    · rw [if_pos (by rfl)]
      refine wp_of_run (w' := X.alloc (.cells #[.int .u8 0, .int .u8 0, .int .u8 0] 24)) (.pointer (some ⟨X.heap.size, 0, none⟩)) (by kernel_rfl) (hK.out _ _ (hX.alloc hX.size _) (fun _ => ?_))
      rw [hF]
      show F _ _ (Act.put _ (some 10) _) _
      rw [actW_10]
      exact ST_3_12.out _ g9 X.heap.size (hX.alloc hX.size _) (rg9.below ((Below.refl _ _).alloc (Nat.le_refl _) _) rg9.lt) bg9 (show GRow _ _ _ 0 0 0 from alloc_at _ _) hX.size (Nat.ne_of_lt rg9.lt)
    refine AllReadyH.cons rfl (fun K hK => ?_) ?_
    · rw [if_pos (by rfl)]
      refine wp_of_run (w' := X.alloc (.cells #[.int .u8 0, .int .u8 0, .int .u8 0] 24)) (.pointer (some ⟨X.heap.size, 0, none⟩)) (by kernel_rfl) (hK.out _ _ (hX.alloc hX.size _) (fun _ => ?_))
      rw [hF]
      show F _ _ (Act.put _ (some 11) _) _
      rw [actW_11]
      exact ST_3_13.out _ g9 X.heap.size (hX.alloc hX.size _) (rg9.below ((Below.refl _ _).alloc (Nat.le_refl _) _) rg9.lt) bg9 (show GRow _ _ _ 0 0 0 from alloc_at _ _) hX.size (Nat.ne_of_lt rg9.lt)
    exact AllReadyH.nil)
  have ST_3_2 : Hid (∀ (X : World) (g10 : Nat) (hX : Below W1.heap.size W1 X) (rg10 : GRow X g10 24 0 0 0) (bg10 : W1.heap.size ≤ g10), F 8 #[true, true, true, true, true, true, true, true, true, true, true, false, false, false, true, false, false, false, false, false] (actW o i e v w0.heap.size undef undef (.pointer (some ⟨g10, 0, none⟩)) undef (gv n i e) (gv o i n) (gv o i e) undef) X) := Lib.hid (by
    intro X g10 hX rg10 bg10
    rw [← hF]
    refine wpAnyH_ready (rs := [11, 12, 13, 15]) (by kernel_rfl) (by simp) ?_
    refine AllReadyH.cons rfl (fun K hK => ?_) ?_
    · rw [if_pos (by rfl)]
      refine wp_call_ret 6 _ _ rfl _ (by rfl) (by kernel_rfl) _ (K3.out _) (fun X2 hB => hK.out _ _ (hX.trans (hB.mono hX.size)) (fun _ => ?_))
      rw [hF]
      show F _ _ (Act.put _ (some 31) _) _
      rw [actW_31]
      exact ST_4_2.out X2 g10 (hX.trans (hB.mono hX.size)) (rg10.below hB rg10.lt) bg10
    refine AllReadyH.cons rfl (fun K hK => ?_) ?_
    · rw [if_pos (by rfl)]
      refine wp_of_run (w' := X.alloc (.cells #[.int .u8 0, .int .u8 0, .int .u8 0] 24)) (.pointer (some ⟨X.heap.size, 0, none⟩)) (by kernel_rfl) (hK.out _ _ (hX.alloc hX.size _) (fun _ => ?_))
      rw [hF]
      show F _ _ (Act.put _ (some 8) _) _
      rw [actW_8]
      exact ST_3_02.out _ X.heap.size g10 (hX.alloc hX.size _) (show GRow _ _ _ 0 0 0 from alloc_at _ _) hX.size (rg10.below ((Below.refl _ _).alloc (Nat.le_refl _) _) rg10.lt) bg10 (Nat.ne_of_gt rg10.lt)
    refine AllReadyH.cons rfl (fun K hK => ?_) ?_
    · rw [if_pos (by rfl)]
      refine wp_of_run (w' := X.alloc (.cells #[.int .u8 0, .int .u8 0, .int .u8 0] 24)) (.pointer (some ⟨X.heap.size, 0, none⟩)) (by kernel_rfl) (hK.out _ _ (hX.alloc hX.size _) (fun _ => ?_))
      rw [hF]
      show F _ _ (Act.put _ (some 9) _) _
      rw [actW_9]
      exact ST_3_12.out _ X.heap.size g10 (hX.alloc hX.size _) (show GRow _ _ _ 0 0 0 from alloc_at _ _) hX.size (rg10.below ((Below.refl _ _).alloc (Nat.le_refl _) _) rg10.lt) bg10 (Nat.ne_of_gt rg10.lt)
    refine AllReadyH.cons rfl (fun K hK => ?_) ?_
    · rw [if_pos (by rfl)]
      refine wp_of_run (w' := X.alloc (.cells #[.int .u8 0, .int .u8 0, .int .u8 0] 24)) (.pointer (some ⟨X.heap.size, 0, none⟩)) (by kernel_rfl) (hK.out _ _ (hX.alloc hX.size _) (fun _ => ?_))
      rw [hF]
      show F _ _ (Act.put _ (some 11) _) _
      rw [actW_11]
      exact ST_3_23.out _ g10 X.heap.size (hX.alloc hX.size _) (rg10.below ((Below.refl _ _).alloc (Nat.le_refl _) _) rg10.lt) bg10 (show GRow _ _ _ 0 0 0 from alloc_at _ _) hX.size (Nat.ne_of_lt rg10.lt)
    exact AllReadyH.nil)
  have ST_3_3 : Hid (∀ (X : World) (g11 : Nat) (hX : Below W1.heap.size W1 X) (rg11 : GRow X g11 24 0 0 0) (bg11 : W1.heap.size ≤ g11), F 8 #[true, true, true, true, true, true, true, true, true, true, true, false, false, false, false, true, false, false, false, false] (actW o i e v w0.heap.size undef undef undef (.pointer (some ⟨g11, 0, none⟩)) (gv n i e) (gv o i n) (gv o i e) undef) X) := Lib.hid (by
    intro X g11 hX rg11 bg11
    rw [← hF]
    refine wpAnyH_ready (rs := [11, 12, 13, 14]) (by kernel_rfl) (by simp) ?_
    refine AllReadyH.cons rfl (fun K hK => ?_) ?_
    · rw [if_pos (by rfl)]
      refine wp_call_ret 6 _ _ rfl _ (by rfl) (by kernel_rfl) _ (K3.out _) (fun X2 hB => hK.out _ _ (hX.trans (hB.mono hX.size)) (fun _ => ?_))
      rw [hF]
      show F _ _ (Act.put _ (some 31) _) _
      rw [actW_31]
      exact ST_4_3.out X2 g11 (hX.trans (hB.mono hX.size)) (rg11.below hB rg11.lt) bg11
    refine AllReadyH.cons rfl (fun K hK => ?_) ?_
    · rw [if_pos (by rfl)]
      refine wp_of_run (w' := X.alloc (.cells #[.int .u8 0, .int .u8 0, .int .u8 0] 24)) (.pointer (some ⟨X.heap.size, 0, none⟩)) (by kernel_rfl) (hK.out _ _ (hX.alloc hX.size _) (fun _ => ?_))
      rw [hF]
      show F _ _ (Act.put _ (some 8) _) _
      rw [actW_8]
      exact ST_3_03.out _ X.heap.size g11 (hX.alloc hX.size _) (show GRow _ _ _ 0 0 0 from alloc_at _ _) hX.size (rg11.below ((Below.refl _ _).alloc (Nat.le_refl _) _) rg11.lt) bg11 (Nat.ne_of_gt rg11.lt)
    refine AllReadyH.cons rfl (fun K hK => ?_) ?_
    · rw [if_pos (by rfl)]
      refine wp_of_run (w' := X.alloc (.cells #[.int .u8 0, .int .u8 0, .int .u8 0] 24)) (.pointer (some ⟨X.heap.size, 0, none⟩)) (by kernel_rfl) (hK.out _ _ (hX.alloc hX.size _) (fun _ => ?_))
      rw [hF]
      show F _ _ (Act.put _ (some 9) _) _
      rw [actW_9]
      exact ST_3_13.out _ X.heap.size g11 (hX.alloc hX.size _) (show GRow _ _ _ 0 0 0 from alloc_at _ _) hX.size (rg11.below ((Below.refl _ _).alloc (Nat.le_refl _) _) rg11.lt) bg11 (Nat.ne_of_gt rg11.lt)
    refine AllReadyH.cons rfl (fun K hK => ?_) ?_
    · rw [if_pos (by rfl)]
      refine wp_of_run (w' := X.alloc (.cells #[.int .u8 0, .int .u8 0, .int .u8 0] 24)) (.pointer (some ⟨X.heap.size, 0, none⟩)) (by kernel_rfl) (hK.out _ _ (hX.alloc hX.size _) (fun _ => ?_))
      rw [hF]
      show F _ _ (Act.put _ (some 10) _) _
      rw [actW_10]
      exact ST_3_23.out _ X.heap.size g11 (hX.alloc hX.size _) (show GRow _ _ _ 0 0 0 from alloc_at _ _) hX.size (rg11.below ((Below.refl _ _).alloc (Nat.le_refl _) _) rg11.lt) bg11 (Nat.ne_of_gt rg11.lt)
    exact AllReadyH.nil)
  have ST_3_ : Hid (∀ (X : World) (hX : Below W1.heap.size W1 X), F 9 #[true, true, true, true, true, true, true, true, true, true, true, false, false, false, false, false, false, false, false, false] (actW o i e v w0.heap.size undef undef undef undef (gv n i e) (gv o i n) (gv o i e) undef) X) := Lib.hid (by
    intro X  hX
    rw [← hF]
    refine wpAnyH_ready (rs := [11, 12, 13, 14, 15]) (by kernel_rfl) (by simp) ?_
    refine AllReadyH.cons rfl (fun K hK => ?_) ?_
    · rw [if_pos (by rfl)]
      refine wp_call_ret 6 _ _ rfl _ (by rfl) (by kernel_rfl) _ (K3.out _) (fun X2 hB => hK.out _ _ (hX.trans (hB.mono hX.size)) (fun _ => ?_))
      rw [hF]
      show F _ _ (Act.put _ (some 31) _) _
      rw [actW_31]
      exact ST_4_.out X2  (hX.trans (hB.mono hX.size))
    refine AllReadyH.cons rfl (fun K hK => ?_) ?_
    · rw [if_pos (by rfl)]
      refine wp_of_run (w' := X.alloc (.cells #[.int .u8 0, .int .u8 0, .int .u8 0] 24)) (.pointer (some ⟨X.heap.size, 0, none⟩)) (by kernel_rfl) (hK.out _ _ (hX.alloc hX.size _) (fun _ => ?_))
      rw [hF]
      show F _ _ (Act.put _ (some 8) _) _
      rw [actW_8]
      exact ST_3_0.out _ X.heap.size (hX.alloc hX.size _) (show GRow _ _ _ 0 0 0 from alloc_at _ _) hX.size
    refine AllReadyH.cons rfl (fun K hK => ?_) ?_
    · rw [if_pos (by rfl)]
      refine wp_of_run (w' := X.alloc (.cells #[.int .u8 0, .int .u8 0, .int .u8 0] 24)) (.pointer (some ⟨X.heap.size, 0, none⟩)) (by kernel_rfl) (hK.out _ _ (hX.alloc hX.size _) (fun _ => ?_))
      rw [hF]
      show F _ _ (Act.put _ (some 9) _) _
      rw [actW_9]
      exact ST_3_1.out _ X.heap.size (hX.alloc hX.size _) (show GRow _ _ _ 0 0 0 from alloc_at _ _) hX.size
    refine AllReadyH.cons rfl (fun K hK => ?_) ?_
    · rw [if_pos (by rfl)]
      refine wp_of_run (w' := X.alloc (.cells #[.int .u8 0, .int .u8 0, .int .u8 0] 24)) (.pointer (some ⟨X.heap.size, 0, none⟩)) (by kernel_rfl) (hK.out _ _ (hX.alloc hX.size _) (fun _ => ?_))
      rw [hF]
      show F _ _ (Act.put _ (some 10) _) _
      rw [actW_10]
      exact ST_3_2.out _ X.heap.size (hX.alloc hX.size _) (show GRow _ _ _ 0 0 0 from alloc_at _ _) hX.size
    refine AllReadyH.cons rfl (fun K hK => ?_) ?_
    · rw [if_pos (by rfl)]
      refine wp_of_run (w' := X.alloc (.cells #[.int .u8 0, .int .u8 0, .int .u8 0] 24)) (.pointer (some ⟨X.heap.size, 0, none⟩)) (by kernel_rfl) (hK.out _ _ (hX.alloc hX.size _) (fun _ => ?_))
      rw [hF]
      show F _ _ (Act.put _ (some 11) _) _
      rw [actW_11]
      exact ST_3_3.out _ X.heap.size (hX.alloc hX.size _) (show GRow _ _ _ 0 0 0 from alloc_at _ _) hX.size
    exact AllReadyH.nil)
  have ST_2_0123 : Hid (∀ (X : World) (g8 g9 g10 g11 : Nat) (hX : Below W1.heap.size W1 X) (rg8 : GRow X g8 24 0 0 0) (bg8 : W1.heap.size ≤ g8) (rg9 : GRow X g9 24 0 0 0) (bg9 : W1.heap.size ≤ g9) (rg10 : GRow X g10 24 0 0 0) (bg10 : W1.heap.size ≤ g10) (rg11 : GRow X g11 24 0 0 0) (bg11 : W1.heap.size ≤ g11) (dg8g9 : g8 ≠ g9) (dg8g10 : g8 ≠ g10) (dg8g11 : g8 ≠ g11) (dg9g10 : g9 ≠ g10) (dg9g11 : g9 ≠ g11) (dg10g11 : g10 ≠ g11), F 6 #[true, true, true, true, true, true, true, true, false, true, true, false, true, true, true, true, false, false, false, false] (actW o i e v w0.heap.size (.pointer (some ⟨g8, 0, none⟩)) (.pointer (some ⟨g9, 0, none⟩)) (.pointer (some ⟨g10, 0, none⟩)) (.pointer (some ⟨g11, 0, none⟩)) (gv n i e) (gv o i n) undef undef) X) := Lib.hid (by
    intro X g8 g9 g10 g11 hX rg8 bg8 rg9 bg9 rg10 bg10 rg11 bg11 dg8g9 dg8g10 dg8g11 dg9g10 dg9g11 dg10g11
    rw [← hF]
    refine wpAnyH_ready (rs := [8]) (by kernel_rfl) (by simp) ?_
    refine AllReadyH.cons rfl (fun K hK => ?_) ?_
    · rw [if_pos (by rfl)]
      refine wp_call_ret 6 _ _ rfl _ (by rfl) (by kernel_rfl) _ (K1.out _) (fun X2 hB => hK.out _ _ (hX.trans (hB.mono hX.size)) (fun _ => ?_))
      rw [hF]
      show F _ _ (Act.put _ (some 28) _) _
      rw [actW_28]
      exact ST_3_0123.out X2 g8 g9 g10 g11 (hX.trans (hB.mono hX.size)) (rg8.below hB rg8.lt) bg8 (rg9.below hB rg9.lt) bg9 (rg10.below hB rg10.lt) bg10 (rg11.below hB rg11.lt) bg11 dg8g9 dg8g10 dg8g11 dg9g10 dg9g11 dg10g11
    exact AllReadyH.nil)
  have ST_2_012 : Hid (∀ (X : World) (g8 g9 g10 : Nat) (hX : Below W1.heap.size W1 X) (rg8 : GRow X g8 24 0 0 0) (bg8 : W1.heap.size ≤ g8) (rg9 : GRow X g9 24 0 0 0) (bg9 : W1.heap.size ≤ g9) (rg10 : GRow X g10 24 0 0 0) (bg10 : W1.heap.size ≤ g10) (dg8g9 : g8 ≠ g9) (dg8g10 : g8 ≠ g10) (dg9g10 : g9 ≠ g10), F 7 #[true, true, true, true, true, true, true, true, false, true, true, false, true, true, true, false, false, false, false, false] (actW o i e v w0.heap.size (.pointer (some ⟨g8, 0, none⟩)) (.pointer (some ⟨g9, 0, none⟩)) (.pointer (some ⟨g10, 0, none⟩)) undef (gv n i e) (gv o i n) undef undef) X) := Lib.hid (by
    intro X g8 g9 g10 hX rg8 bg8 rg9 bg9 rg10 bg10 dg8g9 dg8g10 dg9g10
    rw [← hF]
    refine wpAnyH_ready (rs := [8, 15]) (by kernel_rfl) (by simp) ?_
    refine AllReadyH.cons rfl (fun K hK => ?_) ?_
    · rw [if_pos (by rfl)]
      refine wp_call_ret 6 _ _ rfl _ (by rfl) (by kernel_rfl) _ (K1.out _) (fun X2 hB => hK.out _ _ (hX.trans (hB.mono hX.size)) (fun _ => ?_))
      rw [hF]
      show F _ _ (Act.put _ (some 28) _) _
      rw [actW_28]
      exact ST_3_012.out X2 g8 g9 g10 (hX.trans (hB.mono hX.size)) (rg8.below hB rg8.lt) bg8 (rg9.below hB rg9.lt) bg9 (rg10.below hB rg10.lt) bg10 dg8g9 dg8g10 dg9g10
    refine AllReadyH.cons rfl (fun K hK => ?_) ?_
    · rw [if_pos (by rfl)]
      refine wp_of_run (w' := X.alloc (.cells #[.int .u8 0, .int .u8 0, .int .u8 0] 24)) (.pointer (some ⟨X.heap.size, 0, none⟩)) (by kernel_rfl) (hK.out _ _ (hX.alloc hX.size _) (fun _ => ?_))
      rw [hF]
      show F _ _ (Act.put _ (some 11) _) _
      rw [actW_11]
      exact ST_2_0123.out _ g8 g9 g10 X.heap.size (hX.alloc hX.size _) (rg8.below ((Below.refl _ _).alloc (Nat.le_refl _) _) rg8.lt) bg8 (rg9.below ((Below.refl _ _).alloc (Nat.le_refl _) _) rg9.lt) bg9 (rg10.below ((Below.refl _ _).alloc (Nat.le_refl _) _) rg10.lt) bg10 (show GRow _ _ _ 0 0 0 from alloc_at _ _) hX.size dg8g9 dg8g10 (Nat.ne_of_lt rg8.lt) dg9g10 (Nat.ne_of_lt rg9.lt) (Nat.ne_of_lt rg10.lt)
    exact AllReadyH.nil)
  have ST_2_013 : Hid (∀ (X : World) (g8 g9 g11 : Nat) (hX : Below W1.heap.size W1 X) (rg8 : GRow X g8 24 0 0 0) (bg8 : W1.heap.size ≤ g8) (rg9 : GRow X g9 24 0 0 0) (bg9 : W1.heap.size ≤ g9) (rg11 : GRow X g11 24 0 0 0) (bg11 : W1.heap.size ≤ g11) (dg8g9 : g8 ≠ g9) (dg8g11 : g8 ≠ g11) (dg9g11 : g9 ≠ g11), F 7 #[true, true, true, true, true, true, true, true, false, true, true, false, true, true, false, true, false, false, false, false] (actW o i e v w0.heap.size (.pointer (some ⟨g8, 0, none⟩)) (.pointer (some ⟨g9, 0, none⟩)) undef (.pointer (some ⟨g11, 0, none⟩)) (gv n i e) (gv o i n) undef undef) X) := Lib.hid (by
    intro X g8 g9 g11 hX rg8 bg8 rg9 bg9 rg11 bg11 dg8g9 dg8g11 dg9g11
    rw [← hF]
    refine wpAnyH_ready (rs := [8, 14]) (by kernel_rfl) (by simp) ?_
    refine AllReadyH.cons rfl (fun K hK => ?_) ?_
    · rw [if_pos (by rfl)]
      refine wp_call_ret 6 _ _ rfl _ (by rfl) (by kernel_rfl) _ (K1.out _) (fun X2 hB => hK.out _ _ (hX.trans (hB.mono hX.size)) (fun _ => ?_))
      rw [hF]
      show F _ _ (Act.put _ (some 28) _) _
      rw [actW_28]
      exact ST_3_013.out X2 g8 g9 g11 (hX.trans (hB.mono hX.size)) (rg8.below hB rg8.lt) bg8 (rg9.below hB rg9.lt) bg9 (rg11.below hB rg11.lt) bg11 dg8g9 dg8g11 dg9g11
    refine AllReadyH.cons rfl (fun K hK => ?_) ?_
    · rw [if_pos (by rfl)]
      refine wp_of_run (w' := X.alloc (.cells #[.int .u8 0, .int .u8 0, .int .u8 0] 24)) (.pointer (some ⟨X.heap.size, 0, none⟩)) (by kernel_rfl) (hK.out _ _ (hX.alloc hX.size _) (fun _ => ?_))
      rw [hF]
      show F _ _ (Act.put _ (some 10) _) _
      rw [actW_10]
      exact ST_2_0123.out _ g8 g9 X.heap.size g11 (hX.alloc hX.size _) (rg8.below ((Below.refl _ _).alloc (Nat.le_refl _) _) rg8.lt) bg8 (rg9.below ((Below.refl _ _).alloc (Nat.le_refl _) _) rg9.lt) bg9 (show GRow _ _ _ 0 0 0 from alloc_at _ _) hX.size (rg11.below ((Below.refl _ _).alloc (Nat.le_refl _) _) rg11.lt) bg11 dg8g9 (Nat.ne_of_lt rg8.lt) dg8g11 (Nat.ne_of_lt rg9.lt) dg9g11 (Nat.ne_of_gt rg11.lt)
    exact AllReadyH.nil)
  have ST_2_023 : Hid (∀ (X : World) (g8 g10 g11 : Nat) (hX : Below W1.heap.size W1 X) (rg8 : GRow X g8 24 0 0 0) (bg8 : W1.heap.size ≤ g8) (rg10 : GRow X g10 24 0 0 0) (bg10 : W1.heap.size ≤ g10) (rg11 : GRow X g11 24 0 0 0) (bg11 : W1.heap.size ≤ g11) (dg8g10 : g8 ≠ g10) (dg8g11 : g8 ≠ g11) (dg10g11 : g10 ≠ g11), F 7 #[true, true, true, true, true, true, true, true, false, true, true, false, true, false, true, true, false, false, false, false] (actW o i e v w0.heap.size (.pointer (some ⟨g8, 0, none⟩)) undef (.pointer (some ⟨g10, 0, none⟩)) (.pointer (some ⟨g11, 0, none⟩)) (gv n i e) (gv o i n) undef undef) X) := Lib.hid (by
    intro X g8 g10 g11 hX rg8 bg8 rg10 bg10 rg11 bg11 dg8g10 dg8g11 dg10g11
    rw [← hF]
    refine wpAnyH_ready (rs := [8, 13]) (by kernel_rfl) (by simp) ?_
    refine AllReadyH.cons rfl (fun K hK => ?_) ?_
    · rw [if_pos (by rfl)]
      refine wp_call_ret 6 _ _ rfl _ (by rfl) (by kernel_rfl) _ (K1.out _) (fun X2 hB => hK.out _ _ (hX.trans (hB.mono hX.size)) (fun _ => ?_))
      rw [hF]
      show F _ _ (Act.put _ (some 28) _) _
      rw [actW_28]
      exact ST_3_023.out X2 g8 g10 g11 (hX.trans (hB.mono hX.size)) (rg8.below hB rg8.lt) bg8 (rg10.below hB rg10.lt) bg10 (rg11.below hB rg11.lt) bg11 dg8g10 dg8g11 dg10g11
    refine AllReadyH.cons rfl (fun K hK => ?_) ?_
    · rw [if_pos (by rfl)]
      refine wp_of_run (w' := X.alloc (.cells #[.int .u8 0, .int .u8 0, .int .u8 0] 24)) (.pointer (some ⟨X.heap.size, 0, none⟩)) (by kernel_rfl) (hK.out _ _ (hX.alloc hX.size _) (fun _ => ?_))
      rw [hF]
      show F _ _ (Act.put _ (some 9) _) _
      rw [actW_9]
      exact ST_2_0123.out _ g8 X.heap.size g10 g11 (hX.alloc hX.size _) (rg8.below ((Below.refl _ _).alloc (Nat.le_refl _) _) rg8.lt) bg8 (show GRow _ _ _ 0 0 0 from alloc_at _ _) hX.size (rg10.below ((Below.refl _ _).alloc (Nat.le_refl _) _) rg10.lt) bg10 (rg11.below ((Below.refl _ _).alloc (Nat.le_refl _) _) rg11.lt) bg11 (Nat.ne_of_lt rg8.lt) dg8g10 dg8g11 (Nat.ne_of_gt rg10.lt) (Nat.ne_of_gt rg11.lt) dg10g11
    exact AllReadyH.nil)
  have ST_2_123 : Hid (∀ (X : World) (g9 g10 g11 : Nat) (hX : Below W1.heap.size W1 X) (rg9 : GRow X g9 24 0 0 0) (bg9 : W1.heap.size ≤ g9) (rg10 : GRow X g10 24 0 0 0) (bg10 : W1.heap.size ≤ g10) (rg11 : GRow X g11 24 0 0 0) (bg11 : W1.heap.size ≤ g11) (dg9g10 : g9 ≠ g10) (dg9g11 : g9 ≠ g11) (dg10g11 : g10 ≠ g11), F 7 #[true, true, true, true, true, true, true, true, false, true, true, false, false, true, true, true, false, false, false, false] (actW o i e v w0.heap.size undef (.pointer (some ⟨g9, 0, none⟩)) (.pointer (some ⟨g10, 0, none⟩)) (.pointer (some ⟨g11, 0, none⟩)) (gv n i e) (gv o i n) undef undef) X) := Lib.hid (by
    intro X g9 g10 g11 hX rg9 bg9 rg10 bg10 rg11 bg11 dg9g10 dg9g11 dg10g11
    rw [← hF]
    refine wpAnyH_ready (rs := [8, 12]) (by kernel_rfl) (by simp) ?_
    refine AllReadyH.cons rfl (fun K hK => ?_) ?_
    · rw [if_pos (by rfl)]
      refine wp_call_ret 6 _ _ rfl _ (by rfl) (by kernel_rfl) _ (K1.out _) (fun X2 hB => hK.out _ _ (hX.trans (hB.mono hX.size)) (fun _ => ?_))
      rw [hF]
      show F _ _ (Act.put _ (some 28) _) _
      rw [actW_28]
      exact ST_3_123.out X2 g9 g10 g11 (hX.trans (hB.mono hX.size)) (rg9.below hB rg9.lt) bg9 (rg10.below hB rg10.lt) bg10 (rg11.below hB rg11.lt) bg11 dg9g10 dg9g11 dg10g11
    refine AllReadyH.cons rfl (fun K hK => ?_) ?_
    · rw [if_pos (by rfl)]
      refine wp_of_run (w' := X.alloc (.cells #[.int .u8 0, .int .u8 0, .int .u8 0] 24)) (.pointer (some ⟨X.heap.size, 0, none⟩)) (by kernel_rfl) (hK.out _ _ (hX.alloc hX.size _) (fun _ => ?_))
      rw [hF]
      show F _ _ (Act.put _ (some 8) _) _
      rw [actW_8]
      exact ST_2_0123.out _ X.heap.size g9 g10 g11 (hX.alloc hX.size _) (show GRow _ _ _ 0 0 0 from alloc_at _ _) hX.size (rg9.below ((Below.refl _ _).alloc (Nat.le_refl _) _) rg9.lt) bg9 (rg10.below ((Below.refl _ _).alloc (Nat.le_refl _) _) rg10.lt) bg10 (rg11.below ((Below.refl _ _).alloc (Nat.le_refl _) _) rg11.lt) bg11 (Nat.ne_of_gt rg9.lt) (Nat.ne_of_gt rg10.lt) (Nat.ne_of_gt rg11.lt) dg9g10 dg9g11 dg10g11
    exact AllReadyH.nil)
  have ST_2_01 : Hid (∀ (X : World) (g8 g9 : Nat) (hX : Below W1.heap.size W1 X) (rg8 : GRow X g8 24 0 0 0) (bg8 : W1.heap.size ≤ g8) (rg9 : GRow X g9 24 0 0 0) (bg9 : W1.heap.size ≤ g9) (dg8g9 : g8 ≠ g9), F 8 #[true, true, true, true, true, true, true, true, false, true, true, false, true, true, false, false, false, false, false, false] (actW o i e v w0.heap.size (.pointer (some ⟨g8, 0, none⟩)) (.pointer (some ⟨g9, 0, none⟩)) undef undef (gv n i e) (gv o i n) undef undef) X) := Lib.hid (by
    intro X g8 g9 hX rg8 bg8 rg9 bg9 dg8g9
    rw [← hF]
    refine wpAnyH_ready (rs := [8, 14, 15]) (by kernel_rfl) (by simp) ?_
    refine AllReadyH.cons rfl (fun K hK => ?_) ?_
    · rw [if_pos (by rfl)]
      refine wp_call_ret 6 _ _ rfl _ (by rfl) (by kernel_rfl) _ (K1.out _) (fun X2 hB => hK.out _ _ (hX.trans (hB.mono hX.size)) (fun _ => ?_))
      rw [hF]
      show F _ _ (Act.put _ (some 28) _) _
      rw [actW_28]
      exact ST_3_01.out X2 g8 g9 (hX.trans (hB.mono hX.size)) (rg8.below hB rg8.lt) bg8 (rg9.below hB rg9.lt) bg9 dg8g9
    refine AllReadyH.cons rfl (fun K hK => ?_) ?_
    · rw [if_pos (by rfl)]
      refine wp_of_run (w' := X.alloc (.cells #[.int .u8 0, .int .u8 0, .int .u8 0] 24)) (.pointer (some ⟨X.heap.size, 0, none⟩)) (by kernel_rfl) (hK.out _ _ (hX.alloc hX.size _) (fun _ => ?_))
      rw [hF]
      show F _ _ (Act.put _ (some 10) _) _
      rw [actW_10]
      exact ST_2_012.out _ g8 g9 X.heap.size (hX.alloc hX.size _) (rg8.below ((Below.refl _ _).alloc (Nat.le_refl _) _) rg8.lt) bg8 (rg9.below ((Below.refl _ _).alloc (Nat.le_refl _) _) rg9.lt) bg9 (show GRow _ _ _ 0 0 0 from alloc_at _ _) hX.size dg8g9 (Nat.ne_of_lt rg8.lt) (Nat.ne_of_lt rg9.lt)
    refine AllReadyH.cons rfl (fun K hK => ?_) ?_
    · rw [if_pos (by rfl)]
      refine wp_of_run (w' := X.alloc (.cells #[.int .u8 0, .int .u8 0, .int .u8 0] 24)) (.pointer (some ⟨X.heap.size, 0, none⟩)) (by kernel_rfl) (hK.out _ _ (hX.alloc hX.size _) (fun _ => ?_))
      rw [hF]
      show F _ _ (Act.put _ (some 11) _) _
      rw [actW_11]
      exact ST_2_013.out _ g8 g9 X.heap.size (hX.alloc hX.size _) (rg8.below ((Below.refl _ _).alloc (Nat.le_refl _) _) rg8.lt) bg8 (rg9.below ((Below.refl _ _).alloc (Nat.le_refl _) _) rg9.lt) bg9 (show GRow _ _ _ 0 0 0 from alloc_at _ _) hX.size dg8g9 (Nat.ne_of_lt rg8.lt) (Nat.ne_of_lt rg9.lt)
    exact AllReadyH.nil)
  have ST_2_02 : Hid (∀ (X : World) (g8 g10 : Nat) (hX : Below W1.heap.size W1 X) (rg8 : GRow X g8 24 0 0 0) (bg8 : W1.heap.size ≤ g8) (rg10 : GRow X g10 24 0 0 0) (bg10 : W1.heap.size ≤ g10) (dg8g10 : g8 ≠ g10), F 8 #[true, true, true, true, true, true, true, true, false, true, true, false, true, false, true, false, false, false, false, false] (actW o i e v w0.heap.size (.pointer (some ⟨g8, 0, none⟩)) undef (.pointer (some ⟨g10, 0, none⟩)) undef (gv n i e) (gv o i n) undef undef) X) := Lib.hid (by
    intro X g8 g10 hX rg8 bg8 rg10 bg10 dg8g10
    rw [← hF]
    refine wpAnyH_ready (rs := [8, 13, 15]) (by kernel_rfl) (by simp) ?_
    refine AllReadyH.cons rfl (fun K hK => ?_) ?_
    · rw [if_pos (by rfl)]
      refine wp_call_ret 6 _ _ rfl _ (by rfl) (by kernel_rfl) _ (K1.out _) (fun X2 hB => hK.out _ _ (hX.trans (hB.mono hX.size)) (fun _ => ?_))
      rw [hF]
      show F _ _ (Act.put _ (some 28) _) _
      rw [actW_28]
      exact ST_3_02.out X2 g8 g10 (hX.trans (hB.mono hX.size)) (rg8.below hB rg8.lt) bg8 (rg10.below hB rg10.lt) bg10 dg8g10
    refine AllReadyH.cons rfl (fun K hK => ?_) ?_
    · rw [if_pos (by rfl)]
      refine wp_of_run (w' := X.alloc (.cells #[.int .u8 0, .int .u8 0, .int .u8 0] 24)) (.pointer (some ⟨X.heap.size, 0, none⟩)) (by kernel_rfl) (hK.out _ _ (hX.alloc hX.size _) (fun _ => ?_))
      rw [hF]
      show F _ _ (Act.put _ (some 9) _) _
      rw [actW_9]
      exact ST_2_012.out _ g8 X.heap.size g10 (hX.alloc hX.size _) (rg8.below ((Below.refl _ _).alloc (Nat.le_refl _) _) rg8.lt) bg8 (show GRow _ _ _ 0 0 0 from alloc_at _ _) hX.size (rg10.below ((Below.refl _ _).alloc (Nat.le_refl _) _) rg10.lt) bg10 (Nat.ne_of_lt rg8.lt) dg8g10 (Nat.ne_of_gt rg10.lt)
    refine AllReadyH.cons rfl (fun K hK => ?_) ?_
    · rw [if_pos (by rfl)]
      refine wp_of_run (w' := X.alloc (.cells #[.int .u8 0, .int .u8 0, .int .u8 0] 24)) (.pointer (some ⟨X.heap.size, 0, none⟩)) (by kernel_rfl) (hK.out _ _ (hX.alloc hX.size _) (fun _ => ?_))
      rw [hF]
      show F _ _ (Act.put _ (some 11) _) _
      rw [actW_11]
      exact ST_2_023.out _ g8 g10 X.heap.size (hX.alloc hX.size _) (rg8.below ((Below.refl _ _).alloc (Nat.le_refl _) _) rg8.lt) bg8 (rg10.below ((Below.refl _ _).alloc (Nat.le_refl _) _) rg10.lt) bg10 (show GRow _ _ _ 0 0 0 from alloc_at _ _) hX.size dg8g10 (Nat.ne_of_lt rg8.lt) (Nat.ne_of_lt rg10.lt)
    exact AllReadyH.nil)
  have ST_2_03 : Hid (∀ (X : World) (g8 g11 : Nat) (hX : Below W1.heap.size W1 X) (rg8 : GRow X g8 24 0 0 0) (bg8 : W1.heap.size ≤ g8) (rg11 : GRow X g11 24 0 0 0) (bg11 : W1.heap.size ≤ g11) (dg8g11 : g8 ≠ g11), F 8 #[true, true, true, true, true, true, true, true, false, true, true, false, true, false, false, true, false, false, false, false] (actW o i e v w0.heap.size (.pointer (some ⟨g8, 0, none⟩)) undef undef (.pointer (some ⟨g11, 0, none⟩)) (gv n i e) (gv o i n) undef undef) X) := Lib.hid (by
    intro X g8 g11 hX rg8 bg8 rg11 bg11 dg8g11
    rw [← hF]
    refine wpAnyH_ready (rs := [8, 13, 14]) (by kernel_rfl) (by simp) ?_
    refine AllReadyH.cons rfl (fun K hK => ?_) ?_
    · rw [if_pos (by rfl)]
      refine wp_call_ret 6 _ _ rfl _ (by rfl) (by kernel_rfl) _ (K1.out _) (fun X2 hB => hK.out _ _ (hX.trans (hB.mono hX.size)) (fun _ => ?_))
      rw [hF]
      show F _ _ (Act.put _ (some 28) _) _
      rw [actW_28]
      exact ST_3_03.out X2 g8 g11 (hX.trans (hB.mono hX.size)) (rg8.below hB rg8.lt) bg8 (rg11.below hB rg11.lt) bg11 dg8g11
    refine AllReadyH.cons rfl (fun K hK => ?_) ?_
    · rw [if_pos (by rfl)]
      refine wp_of_run (w' := X.alloc (.cells #[.int .u8 0, .int .u8 0, .int .u8 0] 24)) (.pointer (some ⟨X.heap.size, 0, none⟩)) (by kernel_rfl) (hK.out _ _ (hX.alloc hX.size _) (fun _ => ?_))
      rw [hF]
      show F _ _ (Act.put _ (some 9) _) _
      rw [actW_9]
      exact ST_2_013.out _ g8 X.heap.size g11 (hX.alloc hX.size _) (rg8.below ((Below.refl _ _).alloc (Nat.le_refl _) _) rg8.lt) bg8 (show GRow _ _ _ 0 0 0 from alloc_at _ _) hX.size (rg11.below ((Below.refl _ _).alloc (Nat.le_refl _) _) rg11.lt) bg11 (Nat.ne_of_lt rg8.lt) dg8g11 (Nat.ne_of_gt rg11.lt)
    refine AllReadyH.cons rfl (fun K hK => ?_) ?_
    · rw [if_pos (by rfl)]
      refine wp_of_run (w' := X.alloc (.cells #[.int .u8 0, .int .u8 0, .int .u8 0] 24)) (.pointer (some ⟨X.heap.size, 0, none⟩)) (by kernel_rfl) (hK.out _ _ (hX.alloc hX.size _) (fun _ => ?_))
      rw [hF]
      show F _ _ (Act.put _ (some 10) _) _
      rw [actW_10]
      exact ST_2_023.out _ g8 X.heap.size g11 (hX.alloc hX.size _) (rg8.below ((Below.refl _ _).alloc (Nat.le_refl _) _) rg8.lt) bg8 (show GRow _ _ _ 0 0 0 from alloc_at _ _) hX.size (rg11.below ((Below.refl _ _).alloc (Nat.le_refl _) _) rg11.lt) bg11 (Nat.ne_of_lt rg8.lt) dg8g11 (Nat.ne_of_gt rg11.lt)
    exact AllReadyH.nil)
  have ST_2_12 : Hid (∀ (X : World) (g9 g10 : Nat) (hX : Below W1.heap.size W1 X) (rg9 : GRow X g9 24 0 0 0) (bg9 : W1.heap.size ≤ g9) (rg10 : GRow X g10 24 0 0 0) (bg10 : W1.heap.size ≤ g10) (dg9g10 : g9 ≠ g10), F 8 #[true, true, true, true, true, true, true, true, false, true, true, false, false, true, true, false, false, false, false, false] (actW o i e v w0.heap.size undef (.pointer (some ⟨g9, 0, none⟩)) (.pointer (some ⟨g10, 0, none⟩)) undef (gv n i e) (gv o i n) undef undef) X) := Lib.hid (by
    intro X g9 g10 hX rg9 bg9 rg10 bg10 dg9g10
    rw [← hF]
    refine wpAnyH_ready (rs := [8, 12, 15]) (by kernel_rfl) (by simp) ?_
    refine AllReadyH.cons rfl (fun K hK => ?_) ?_
    · rw [if_pos (by rfl)]
      refine wp_call_ret 6 _ _ rfl _ (by rfl) (by kernel_rfl) _ (K1.out _) (fun X2 hB => hK.out _ _ (hX.trans (hB.mono hX.size)) (fun _ => ?_))
      rw [hF]
      show F _ _ (Act.put _ (some 28) _) _
      rw [actW_28]
      exact ST_3_12.out X2 g9 g10 (hX.trans (hB.mono hX.size)) (rg9.below hB rg9.lt) bg9 (rg10.below hB rg10.lt) bg10 dg9g10
    refine AllReadyH.cons rfl (fun K hK => ?_) ?_
    · rw [if_pos (by rfl)]
      refine wp_of_run (w' := X.alloc (.cells #[.int .u8 0, .int .u8 0, .int .u8 0] 24)) (.pointer (some ⟨X.heap.size, 0, none⟩)) (by kernel_rfl) (hK.out _ _ (hX.alloc hX.size _) (fun _ => ?_))
      rw [hF]
      show F _ _ (Act.put _ (some 8) _) _
      rw [actW_8]
      exact ST_2_012.out _ X.heap.size g9 g10 (hX.alloc hX.size _) (show GRow _ _ _ 0 0 0 from alloc_at _ _) hX.size (rg9.below ((Below.refl _ _).alloc (Nat.le_refl _) _) rg9.lt) bg9 (rg10.below ((Below.refl _ _).alloc (Nat.le_refl _) _) rg10.lt) bg10 (Nat.ne_of_gt rg9.lt) (Nat.ne_of_gt rg10.lt) dg9g10
    refine AllReadyH.cons rfl (fun K hK => ?_) ?_
    · rw [if_pos (by rfl)]
      refine wp_of_run (w' := X.alloc (.cells #[.int .u8 0, .int .u8 0, .int .u8 0] 24)) (.pointer (some ⟨X.heap.size, 0, none⟩)) (by kernel_rfl) (hK.out _ _ (hX.alloc hX.size _) (fun _ => ?_))
      rw [hF]
      show F _ _ (Act.put _ (some 11) _) _
      rw [actW_11]
      exact ST_2_123.out _ g9 g10 X.heap.size (hX.alloc hX.size _) (rg9.below ((Below.refl _ _).alloc (Nat.le_refl _) _) rg9.lt) bg9 (rg10.below ((Below.refl _ _).alloc (Nat.le_refl _) _) rg10.lt) bg10 (show GRow _ _ _ 0 0 0 from alloc_at _ _) hX.size dg9g10 (Nat.ne_of_lt rg9.lt) (Nat.ne_of_lt rg10.lt)
    exact AllReadyH.nil)
  have ST_2_13 : Hid (∀ (X : World) (g9 g11 : Nat) (hX : Below W1.heap.size W1 X) (rg9 : GRow X g9 24 0 0 0) (bg9 : W1.heap.size ≤ g9) (rg11 : GRow X g11 24 0 0 0) (bg11 : W1.heap.size ≤ g11) (dg9g11 : g9 ≠ g11), F 8 #[true, true, true, true, true, true, true, true, false, true, true, false, false, true, false, true, false, false, false, false] (actW o i e v w0.heap.size undef (.pointer (some ⟨g9, 0, none⟩)) undef (.pointer (some ⟨g11, 0, none⟩)) (gv n i e) (gv o i n) undef undef) X) := Lib.hid (by
    intro X g9 g11 hX rg9 bg9 rg11 bg11 dg9g11
    rw [← hF]
    refine wpAnyH_ready (rs := [8, 12, 14]) (by kernel_rfl) (by simp) ?_
    refine AllReadyH.cons rfl (fun K hK => ?_) ?_
    · rw [if_pos (by rfl)]
      refine wp_call_ret 6 _ _ rfl _ (by rfl) (by kernel_rfl) _ (K1.out _) (fun X2 hB => hK.out _ _ (hX.trans (hB.mono hX.size)) (fun _ => ?_))
      rw [hF]
      show F _ _ (Act.put _ (some 28) _) _
      rw [actW_28]
      exact ST_3_13.out X2 g9 g11 (hX.trans (hB.mono hX.size)) (rg9.below hB rg9.lt) bg9 (rg11.below hB rg11.lt) bg11 dg9g11
    refine AllReadyH.cons rfl (fun K hK => ?_) ?_
    · rw [if_pos (by rfl)]
      refine wp_of_run (w' := X.alloc (.cells #[.int .u8 0, .int .u8 0, .int .u8 0] 24)) (.pointer (some ⟨X.heap.size, 0, none⟩)) (by kernel_rfl) (hK.out _ _ (hX.alloc hX.size _) (fun _ => ?_))
      rw [hF]
      show F _ _ (Act.put _ (some 8) _) _
      rw [actW_8]
      exact ST_2_013.out _ X.heap.size g9 g11 (hX.alloc hX.size _) (show GRow _ _ _ 0 0 0 from alloc_at _ _) hX.size (rg9.below ((Below.refl _ _).alloc (Nat.le_refl _) _) rg9.lt) bg9 (rg11.below ((Below.refl _ _).alloc (Nat.le_refl _) _) rg11.lt) bg11 (Nat.ne_of_gt rg9.lt) (Nat.ne_of_gt rg11.lt) dg9g11
    refine AllReadyH.cons rfl (fun K hK => ?_) ?_
    · rw [if_pos (by rfl)]
      refine wp_of_run (w' := X.alloc (.cells #[.int .u8 0, .int .u8 0, .int .u8 0] 24)) (.pointer (some ⟨X.heap.size, 0, none⟩)) (by kernel_rfl) (hK.out _ _ (hX.alloc hX.size _) (fun _ => ?_))
      rw [hF]
      show F _ _ (Act.put _ (some 10) _) _
      rw [actW_10]
      exact ST_2_123.out _ g9 X.heap.size g11 (hX.alloc hX.size _) (rg9.below ((Below.refl _ _).alloc (Nat.le_refl _) _) rg9.lt) bg9 (show GRow _ _ _ 0 0 0 from alloc_at _ _) hX.size (rg11.below ((Below.refl _ _).alloc (Nat.le_refl _) _) rg11.lt) bg11 (Nat.ne_of_lt rg9.lt) dg9g11 (Nat.ne_of_gt rg11.lt)
    exact AllReadyH.nil)
  have ST_2_23 : Hid (∀ (X : World) (g10 g11 : Nat) (hX : Below W1.heap.size W1 X) (rg10 : GRow X g10 24 0 0 0) (bg10 : W1.heap.size ≤ g10) (rg11 : GRow X g11 24 0 0 0) (bg11 : W1.heap.size ≤ g11) (dg10g11 : g10 ≠ g11), F 8 #[true, true, true, true, true, true, true, true, false, true, true, false, false, false, true, true, false, false, false, false] (actW o i e v w0.heap.size undef undef (.pointer (some ⟨g10, 0, none⟩)) (.pointer (some ⟨g11, 0, none⟩)) (gv n i e) (gv o i n) undef undef) X) := Lib.hid (by
    intro X g10 g11 hX rg10 bg10 rg11 bg11 dg10g11
    rw [← hF]
    refine wpAnyH_ready (rs := [8, 12, 13]) (by kernel_rfl) (by simp) ?_
    refine AllReadyH.cons rfl (fun K hK => ?_) ?_
    · rw [if_pos (by rfl)]
      refine wp_call_ret 6 _ _ rfl _ (by rfl) (by kernel_rfl) _ (K1.out _) (fun X2 hB => hK.out _ _ (hX.trans (hB.mono hX.size)) (fun _ => ?_))
      rw [hF]
      show F _ _ (Act.put _ (some 28) _) _
      rw [actW_28]
      exact ST_3_23.out X2 g10 g11 (hX.trans (hB.mono hX.size)) (rg10.below hB rg10.lt) bg10 (rg11.below hB rg11.lt) bg11 dg10g11
    refine AllReadyH.cons rfl (fun K hK => ?_) ?_
    · rw [if_pos (by rfl)]
      refine wp_of_run (w' := X.alloc (.cells #[.int .u8 0, .int .u8 0, .int .u8 0] 24)) (.pointer (some ⟨X.heap.size, 0, none⟩)) (by kernel_rfl) (hK.out _ _ (hX.alloc hX.size _) (fun _ => ?_))
      rw [hF]
      show F _ _ (Act.put _ (some 8) _) _
      rw [actW_8]
      exact ST_2_023.out _ X.heap.size g10 g11 (hX.alloc hX.size _) (show GRow _ _ _ 0 0 0 from alloc_at _ _) hX.size (rg10.below ((Below.refl _ _).alloc (Nat.le_refl _) _) rg10.lt) bg10 (rg11.below ((Below.refl _ _).alloc (Nat.le_refl _) _) rg11.lt) bg11 (Nat.ne_of_gt rg10.lt) (Nat.ne_of_gt rg11.lt) dg10g11
    refine AllReadyH.cons rfl (fun K hK => ?_) ?_
    · rw [if_pos (by rfl)]
      refine wp_of_run (w' := X.alloc (.cells #[.int .u8 0, .int .u8 0, .int .u8 0] 24)) (.pointer (some ⟨X.heap.size, 0, none⟩)) (by kernel_rfl) (hK.out _ _ (hX.alloc hX.size _) (fun _ => ?_))
      rw [hF]
      show F _ _ (Act.put _ (some 9) _) _
      rw [actW_9]
      exact ST_2_123.out _ X.heap.size g10 g11 (hX.alloc hX.size _) (show GRow _ _ _ 0 0 0 from alloc_at _ _) hX.size (rg10.below ((Below.refl _ _).alloc (Nat.le_refl _) _) rg10.lt) bg10 (rg11.below ((Below.refl _ _).alloc (Nat.le_refl _) _) rg11.lt) bg11 (Nat.ne_of_gt rg10.lt) (Nat.ne_of_gt rg11.lt) dg10g11
    exact AllReadyH.nil)
  have ST_2_0 : Hid (∀ (X : World) (g8 : Nat) (hX : Below W1.heap.size W1 X) (rg8 : GRow X g8 24 0 0 0) (bg8 : W1.heap.size ≤ g8), F 9 #[true, true, true, true, true, true, true, true, false, true, true, false, true, false, false, false, false, false, false, false] (actW o i e v w0.heap.size (.pointer (some ⟨g8, 0, none⟩)) undef undef undef (gv n i e) (gv o i n) undef undef) X) := Lib.hid (by
    intro X g8 hX rg8 bg8
    rw [← hF]
    refine wpAnyH_ready (rs := [8, 13, 14, 15]) (by kernel_rfl) (by simp) ?_
    refine AllReadyH.cons rfl (fun K hK => ?_) ?_
    · rw [if_pos (by rfl)]
      refine wp_call_ret 6 _ _ rfl _ (by rfl) (by kernel_rfl) _ (K1.out _) (fun X2 hB => hK.out _ _ (hX.trans (hB.mono hX.size)) (fun _ => ?_))
      rw [hF]
      show F _ _ (Act.put _ (some 28) _) _
      rw [actW_28]
      exact ST_3_0.out X2 g8 (hX.trans (hB.mono hX.size)) (rg8.below hB rg8.lt) bg8
    refine AllReadyH.cons rfl (fun K hK => ?_) ?_
    · rw [if_pos (by rfl)]
      refine wp_of_run (w' := X.alloc (.cells #[.int .u8 0, .int .u8 0, .int .u8 0] 24)) (.pointer (some ⟨X.heap.size, 0, none⟩)) (by kernel_rfl) (hK.out _ _ (hX.alloc hX.size _) (fun _ => ?_))
      rw [hF]
      show F _ _ (Act.put _ (some 9) _) _
      rw [actW_9]
      exact ST_2_01.out _ g8 X.heap.size (hX.alloc hX.size _) (rg8.below ((Below.refl _ _).alloc (Nat.le_refl _) _) rg8.lt) bg8 (show GRow _ _ _ 0 0 0 from alloc_at _ _) hX.size (Nat.ne_of_lt rg8.lt)
    refine AllReadyH.cons rfl (fun K hK => ?_) ?_
    · rw [if_pos (by rfl)]
      refine wp_of_run (w' := X.alloc (.cells #[.int .u8 0, .int .u8 0, .int .u8 0] 24)) (.pointer (some ⟨X.heap.size, 0, none⟩)) (by kernel_rfl) (hK.out _ _ (hX.alloc hX.size _) (fun _ => ?_))
      rw [hF]
      show F _ _ (Act.put _ (some 10) _) _
      rw [actW_10]
      exact ST_2_02.out _ g8 X.heap.size (hX.alloc hX.size _) (rg8.below ((Below.refl _ _).alloc (Nat.le_refl _) _) rg8.lt) bg8 (show GRow _ _ _ 0 0 0 from alloc_at _ _) hX.size (Nat.ne_of_lt rg8.lt)
    refine AllReadyH.cons rfl (fun K hK => ?_) ?_
    · rw [if_pos (by rfl)]
      refine wp_of_run (w' := X.alloc (.cells #[.int .u8 0, .int .u8 0, .int .u8 0] 24)) (.pointer (some ⟨X.heap.size, 0, none⟩)) (by kernel_rfl) (hK.out _ _ (hX.alloc hX.size _) (fun _ => ?_))
      rw [hF]
      show F _ _ (Act.put _ (some 11) _) _
      rw [actW_11]
      exact ST_2_03.out _ g8 X.heap.size (hX.alloc hX.size _) (rg8.below ((Below.refl _ _).alloc (Nat.le_refl _) _) rg8.lt) bg8 (show GRow _ _ _ 0 0 0 from alloc_at _ _) hX.size (Nat.ne_of_lt rg8.lt)
    exact AllReadyH.nil)
  have ST_2_1 : Hid (∀ (X : World) (g9 : Nat) (hX : Below W1.heap.size W1 X) (rg9 : GRow X g9 24 0 0 0) (bg9 : W1.heap.size ≤ g9), F 9 #[true, true, true, true, true, true, true, true, false, true, true, false, false, true, false, false, false, false, false, false] (actW o i e v w0.heap.size undef (.pointer (some ⟨g9, 0, none⟩)) undef undef (gv n i e) (gv o i n) undef undef) X) := Lib.hid (by
    intro X g9 hX rg9 bg9
    rw [← hF]
    refine wpAnyH_ready (rs := [8, 12, 14, 15]) (by kernel_rfl) (by simp) ?_
    refine AllReadyH.cons rfl (fun K hK => ?_) ?_
    · rw [if_pos (by rfl)]
      refine wp_call_ret 6 _ _ rfl _ (by rfl) (by kernel_rfl) _ (K1.out _) (fun X2 hB => hK.out _ _ (hX.trans (hB.mono hX.size)) (fun _ => ?_))
      rw [hF]
      show F _ _ (Act.put _ (some 28) _) _
      rw [actW_28]
      exact ST_3_1.out X2 g9 (hX.trans (hB.mono hX.size)) (rg9.below hB rg9.lt) bg9
    refine AllReadyH.cons rfl (fun K hK => ?_) ?_
    · rw [if_pos (by rfl)]
      refine wp_of_run (w' := X.alloc (.cells #[.int .u8 0, .int .u8 0, .int .u8 0] 24)) (.pointer (some ⟨X.heap.size, 0, none⟩)) (by kernel_rfl) (hK.out _ _ (hX.alloc hX.size _) (fun _ => ?_))
      rw [hF]
      show F _ _ (Act.put _ (some 8) _) _
      rw [actW_8]
      exact ST_2_01.out _ X.heap.size g9 (hX.alloc hX.size _) (show GRow _ _ _ 0 0 0 from alloc_at _ _) hX.size (rg9.below ((Below.refl _ _).alloc (Nat.le_refl _) _) rg9.lt) bg9 (Nat.ne_of_gt rg9.lt)
    refine AllReadyH.cons rfl (fun K hK => ?_) ?_
    · rw [if_pos (by rfl)]
      refine wp_of_run (w' := X.alloc (.cells #[.int .u8 0, .int .u8 0, .int .u8 0] 24)) (.pointer (some ⟨X.heap.size, 0, none⟩)) (by kernel_rfl) (hK.out _ _ (hX.alloc hX.size _) (fun _ => ?_))
      rw [hF]
      show F _ _ (Act.put _ (some 10) _) _
      rw [actW_10]
      exact ST_2_12.out _ g9 X.heap.size (hX.alloc hX.size _) (rg9.below ((Below.refl _ _).alloc (Nat.le_refl _) _) rg9.lt) bg9 (show GRow _ _ _ 0 0 0 from alloc_at _ _) hX.size (Nat.ne_of_lt rg9.lt)
    refine AllReadyH.cons rfl (fun K hK => ?_) ?_
    · rw [if_pos (by rfl)]
      refine wp_of_run (w' := X.alloc (.cells #[.int .u8 0, .int .u8 0, .int .u8 0] 24)) (.pointer (some ⟨X.heap.size, 0, none⟩)) (by kernel_rfl) (hK.out _ _ (hX.alloc hX.size _) (fun _ => ?_))
      rw [hF]
      show F _ _ (Act.put _ (some 11) _) _
      rw [actW_11]
      exact ST_2_13.out _ g9 X.heap.size (hX.alloc hX.size _) (rg9.below ((Below.refl _ _).alloc (Nat.le_refl _) _) rg9.lt) bg9 (show GRow _ _ _ 0 0 0 from alloc_at _ _) hX.size (Nat.ne_of_lt rg9.lt)
    exact AllReadyH.nil)
  have ST_2_2 : Hid (∀ (X : World) (g10 : Nat) (hX : Below W1.heap.size W1 X) (rg10 : GRow X g10 24 0 0 0) (bg10 : W1.heap.size ≤ g10), F 9 #[true, true, true, true, true, true, true, true, false, true, true, false, false, false, true, false, false, false, false, false] (actW o i e v w0.heap.size undef undef (.pointer (some ⟨g10, 0, none⟩)) undef (gv n i e) (gv o i n) undef undef) X) := Lib.hid (by
    intro X g10 hX rg10 bg10
    rw [← hF]
    refine wpAnyH_ready (rs := [8, 12, 13, 15]) (by kernel_rfl) (by simp) ?_
    refine AllReadyH.cons rfl (fun K hK => ?_) ?_
    · rw [if_pos (by rfl)]
      refine wp_call_ret 6 _ _ rfl _ (by rfl) (by kernel_rfl) _ (K1.out _) (fun X2 hB => hK.out _ _ (hX.trans (hB.mono hX.size)) (fun _ => ?_))
      rw [hF]
      show F _ _ (Act.put _ (some 28) _) _
      rw [actW_28]
      exact ST_3_2.out X2 g10 (hX.trans (hB.mono hX.size)) (rg10.below hB rg10.lt) bg10
    refine AllReadyH.cons rfl (fun K hK => ?_) ?_
    · rw [if_pos (by rfl)]
      refine wp_of_run (w' := X.alloc (.cells #[.int .u8 0, .int .u8 0, .int .u8 0] 24)) (.pointer (some ⟨X.heap.size, 0, none⟩)) (by kernel_rfl) (hK.out _ _ (hX.alloc hX.size _) (fun _ => ?_))
      rw [hF]
      show F _ _ (Act.put _ (some 8) _) _
      rw [actW_8]
      exact ST_2_02.out _ X.heap.size g10 (hX.alloc hX.size _) (show GRow _ _ _ 0 0 0 from alloc_at _ _) hX.size (rg10.below ((Below.refl _ _).alloc (Nat.le_refl _) _) rg10.lt) bg10 (Nat.ne_of_gt rg10.lt)
    refine AllReadyH.cons rfl (fun K hK => ?_) ?_
    · rw [if_pos (by rfl)]
      refine wp_of_run (w' := X.alloc (.cells #[.int .u8 0, .int .u8 0, .int .u8 0] 24)) (.pointer (some ⟨X.heap.size, 0, none⟩)) (by kernel_rfl) (hK.out _ _ (hX.alloc hX.size _) (fun _ => ?_))
      rw [hF]
      show F _ _ (Act.put _ (some 9) _) _
      rw [actW_9]
      exact ST_2_12.out _ X.heap.size g10 (hX.alloc hX.size _) (show GRow _ _ _ 0 0 0 from alloc_at _ _) hX.size (rg10.below ((Below.refl _ _).alloc (Nat.le_refl _) _) rg10.lt) bg10 (Nat.ne_of_gt rg10.lt)
    refine AllReadyH.cons rfl (fun K hK => ?_) ?_
    · rw [if_pos (by rfl)]
      refine wp_of_run (w' := X.alloc (.cells #[.int .u8 0, .int .u8 0, .int .u8 0] 24)) (.pointer (some ⟨X.heap.size, 0, none⟩)) (by kernel_rfl) (hK.out _ _ (hX.alloc hX.size _) (fun _ => ?_))
      rw [hF]
      show F _ _ (Act.put _ (some 11) _) _
      rw [actW_11]
      exact ST_2_23.out _ g10 X.heap.size (hX.alloc hX.size _) (rg10.below ((Below.refl _ _).alloc (Nat.le_refl _) _) rg10.lt) bg10 (show GRow _ _ _ 0 0 0 from alloc_at _ _) hX.size (Nat.ne_of_lt rg10.lt)
    exact AllReadyH.nil)
  have ST_2_3 : Hid (∀ (X : World) (g11 : Nat) (hX : Below W1.heap.size W1 X) (rg11 : GRow X g11 24 0 0 0) (bg11 : W1.heap.size ≤ g11), F 9 #[true, true, true, true, true, true, true, true, false, true, true, false, false, false, false, true, false, false, false, false] (actW o i e v w0.heap.size undef undef undef (.pointer (some ⟨g11, 0, none⟩)) (gv n i e) (gv o i n) undef undef) X) := Lib.hid (by
    intro X g11 hX rg11 bg11
    rw [← hF]
    refine wpAnyH_ready (rs := [8, 12, 13, 14]) (by kernel_rfl) (by simp) ?_
    refine AllReadyH.cons rfl (fun K hK => ?_) ?_
    · rw [if_pos (by rfl)]
      refine wp_call_ret 6 _ _ rfl _ (by rfl) (by kernel_rfl) _ (K1.out _) (fun X2 hB => hK.out _ _ (hX.trans (hB.mono hX.size)) (fun _ => ?_))
      rw [hF]
      show F _ _ (Act.put _ (some 28) _) _
      rw [actW_28]
      exact ST_3_3.out X2 g11 (hX.trans (hB.mono hX.size)) (rg11.below hB rg11.lt) bg11
    refine AllReadyH.cons rfl (fun K hK => ?_) ?_
    · rw [if_pos (by rfl)]
      refine wp_of_run (w' := X.alloc (.cells #[.int .u8 0, .int .u8 0, .int .u8 0] 24)) (.pointer (some ⟨X.heap.size, 0, none⟩)) (by kernel_rfl) (hK.out _ _ (hX.alloc hX.size _) (fun _ => ?_))
      rw [hF]
      show F _ _ (Act.put _ (some 8) _) _
      rw [actW_8]
      exact ST_2_03.out _ X.heap.size g11 (hX.alloc hX.size _) (show GRow _ _ _ 0 0 0 from alloc_at _ _) hX.size (rg11.below ((Below.refl _ _).alloc (Nat.le_refl _) _) rg11.lt) bg11 (Nat.ne_of_gt rg11.lt)
    refine AllReadyH.cons rfl (fun K hK => ?_) ?_
    · rw [if_pos (by rfl)]
      refine wp_of_run (w' := X.alloc (.cells #[.int .u8 0, .int .u8 0, .int .u8 0] 24)) (.pointer (some ⟨X.heap.size, 0, none⟩)) (by kernel_rfl) (hK.out _ _ (hX.alloc hX.size _) (fun _ => ?_))
      rw [hF]
      show F _ _ (Act.put _ (some 9) _) _
      rw [actW_9]
      exact ST_2_13.out _ X.heap.size g11 (hX.alloc hX.size _) (show GRow _ _ _ 0 0 0 from alloc_at _ _) hX.size (rg11.below ((Below.refl _ _).alloc (Nat.le_refl _) _) rg11.lt) bg11 (Nat.ne_of_gt rg11.lt)
    refine AllReadyH.cons rfl (fun K hK => ?_) ?_
    · rw [if_pos (by rfl)]
      refine wp_of_run (w' := X.alloc (.cells #[.int .u8 0, .int .u8 0, .int .u8 0] 24)) (.pointer (some ⟨X.heap.size, 0, none⟩)) (by kernel_rfl) (hK.out _ _ (hX.alloc hX.size _) (fun _ => ?_))
      rw [hF]
      show F _ _ (Act.put _ (some 10) _) _
      rw [actW_10]
      exact ST_2_23.out _ X.heap.size g11 (hX.alloc hX.size _) (show GRow _ _ _ 0 0 0 from alloc_at _ _) hX.size (rg11.below ((Below.refl _ _).alloc (Nat.le_refl _) _) rg11.lt) bg11 (Nat.ne_of_gt rg11.lt)
    exact AllReadyH.nil)
  have ST_2_ : Hid (∀ (X : World) (hX : Below W1.heap.size W1 X), F 10 #[true, true, true, true, true, true, true, true, false, true, true, false, false, false, false, false, false, false, false, false] (actW o i e v w0.heap.size undef undef undef undef (gv n i e) (gv o i n) undef undef) X) := Lib.hid (by
    intro X  hX
    rw [← hF]
    refine wpAnyH_ready (rs := [8, 12, 13, 14, 15]) (by kernel_rfl) (by simp) ?_
    refine AllReadyH.cons rfl (fun K hK => ?_) ?_
    · rw [if_pos (by rfl)]
      refine wp_call_ret 6 _ _ rfl _ (by rfl) (by kernel_rfl) _ (K1.out _) (fun X2 hB => hK.out _ _ (hX.trans (hB.mono hX.size)) (fun _ => ?_))
      rw [hF]
      show F _ _ (Act.put _ (some 28) _) _
      rw [actW_28]
      exact ST_3_.out X2  (hX.trans (hB.mono hX.size))
    refine AllReadyH.cons rfl (fun K hK => ?_) ?_
    · rw [if_pos (by rfl)]
      refine wp_of_run (w' := X.alloc (.cells #[.int .u8 0, .int .u8 0, .int .u8 0] 24)) (.pointer (some ⟨X.heap.size, 0, none⟩)) (by kernel_rfl) (hK.out _ _ (hX.alloc hX.size _) (fun _ => ?_))
      rw [hF]
      show F _ _ (Act.put _ (some 8) _) _
      rw [actW_8]
      exact ST_2_0.out _ X.heap.size (hX.alloc hX.size _) (show GRow _ _ _ 0 0 0 from alloc_at _ _) hX.size
    refine AllReadyH.cons rfl (fun K hK => ?_) ?_
    · rw [if_pos (by rfl)]
      refine wp_of_run (w' := X.alloc (.cells #[.int .u8 0, .int .u8 0, .int .u8 0] 24)) (.pointer (some ⟨X.heap.size, 0, none⟩)) (by kernel_rfl) (hK.out _ _ (hX.alloc hX.size _) (fun _ => ?_))
      rw [hF]
      show F _ _ (Act.put _ (some 9) _) _
      rw [actW_9]
      exact ST_2_1.out _ X.heap.size (hX.alloc hX.size _) (show GRow _ _ _ 0 0 0 from alloc_at _ _) hX.size
    refine AllReadyH.cons rfl (fun K hK => ?_) ?_
    · rw [if_pos (by rfl)]
      refine wp_of_run (w' := X.alloc (.cells #[.int .u8 0, .int .u8 0, .int .u8 0] 24)) (.pointer (some ⟨X.heap.size, 0, none⟩)) (by kernel_rfl) (hK.out _ _ (hX.alloc hX.size _) (fun _ => ?_))
      rw [hF]
      show F _ _ (Act.put _ (some 10) _) _
      rw [actW_10]
      exact ST_2_2.out _ X.heap.size (hX.alloc hX.size _) (show GRow _ _ _ 0 0 0 from alloc_at _ _) hX.size
    refine AllReadyH.cons rfl (fun K hK => ?_) ?_
    · rw [if_pos (by rfl)]
      refine wp_of_run (w' := X.alloc (.cells #[.int .u8 0, .int .u8 0, .int .u8 0] 24)) (.pointer (some ⟨X.heap.size, 0, none⟩)) (by kernel_rfl) (hK.out _ _ (hX.alloc hX.size _) (fun _ => ?_))
      rw [hF]
      show F _ _ (Act.put _ (some 11) _) _
      rw [actW_11]
      exact ST_2_3.out _ X.heap.size (hX.alloc hX.size _) (show GRow _ _ _ 0 0 0 from alloc_at _ _) hX.size
    exact AllReadyH.nil)
  have ST_1_0123 : Hid (∀ (X : World) (g8 g9 g10 g11 : Nat) (hX : Below W1.heap.size W1 X) (rg8 : GRow X g8 24 0 0 0) (bg8 : W1.heap.size ≤ g8) (rg9 : GRow X g9 24 0 0 0) (bg9 : W1.heap.size ≤ g9) (rg10 : GRow X g10 24 0 0 0) (bg10 : W1.heap.size ≤ g10) (rg11 : GRow X g11 24 0 0 0) (bg11 : W1.heap.size ≤ g11) (dg8g9 : g8 ≠ g9) (dg8g10 : g8 ≠ g10) (dg8g11 : g8 ≠ g11) (dg9g10 : g9 ≠ g10) (dg9g11 : g9 ≠ g11) (dg10g11 : g10 ≠ g11), F 7 #[true, true, true, true, true, false, true, true, false, true, true, false, true, true, true, true, false, false, false, false] (actW o i e v w0.heap.size (.pointer (some ⟨g8, 0, none⟩)) (.pointer (some ⟨g9, 0, none⟩)) (.pointer (some ⟨g10, 0, none⟩)) (.pointer (some ⟨g11, 0, none⟩)) (gv n i e) undef undef undef) X) := Lib.hid (by
    intro X g8 g9 g10 g11 hX rg8 bg8 rg9 bg9 rg10 bg10 rg11 bg11 dg8g9 dg8g10 dg8g11 dg9g10 dg9g11 dg10g11
    rw [← hF]
    refine wpAnyH_ready (rs := [5]) (by kernel_rfl) (by simp) ?_
    refine AllReadyH.cons rfl (fun K hK => ?_) ?_
    · rw [if_pos (by rfl)]
      refine wp_call_ret 6 _ _ rfl _ (by rfl) (by kernel_rfl) _ (K2.out _) (fun X2 hB => hK.out _ _ (hX.trans (hB.mono hX.size)) (fun _ => ?_))
      rw [hF]
      show F _ _ (Act.put _ (some 25) _) _
      rw [actW_25]
      exact ST_2_0123.out X2 g8 g9 g10 g11 (hX.trans (hB.mono hX.size)) (rg8.below hB rg8.lt) bg8 (rg9.below hB rg9.lt) bg9 (rg10.below hB rg10.lt) bg10 (rg11.below hB rg11.lt) bg11 dg8g9 dg8g10 dg8g11 dg9g10 dg9g11 dg10g11
    exact AllReadyH.nil)
  have ST_1_012 : Hid (∀ (X : World) (g8 g9 g10 : Nat) (hX : Below W1.heap.size W1 X) (rg8 : GRow X g8 24 0 0 0) (bg8 : W1.heap.size ≤ g8) (rg9 : GRow X g9 24 0 0 0) (bg9 : W1.heap.size ≤ g9) (rg10 : GRow X g10 24 0 0 0) (bg10 : W1.heap.size ≤ g10) (dg8g9 : g8 ≠ g9) (dg8g10 : g8 ≠ g10) (dg9g10 : g9 ≠ g10), F 8 #[true, true, true, true, true, false, true, true, false, true, true, false, true, true, true, false, false, false, false, false] (actW o i e v w0.heap.size (.pointer (some ⟨g8, 0, none⟩)) (.pointer (some ⟨g9, 0, none⟩)) (.pointer (some ⟨g10, 0, none⟩)) undef (gv n i e) undef undef undef) X) := Lib.hid (by
    intro X g8 g9 g10 hX rg8 bg8 rg9 bg9 rg10 bg10 dg8g9 dg8g10 dg9g10
    rw [← hF]
    refine wpAnyH_ready (rs := [5, 15]) (by kernel_rfl) (by simp) ?_
    refine AllReadyH.cons rfl (fun K hK => ?_) ?_
    · rw [if_pos (by rfl)]
      refine wp_call_ret 6 _ _ rfl _ (by rfl) (by kernel_rfl) _ (K2.out _) (fun X2 hB => hK.out _ _ (hX.trans (hB.mono hX.size)) (fun _ => ?_))
      rw [hF]
      show F _ _ (Act.put _ (some 25) _) _
      rw [actW_25]
      exact ST_2_012.out X2 g8 g9 g10 (hX.trans (hB.mono hX.size)) (rg8.below hB rg8.lt) bg8 (rg9.below hB rg9.lt) bg9 (rg10.below hB rg10.lt) bg10 dg8g9 dg8g10 dg9g10
    refine AllReadyH.cons rfl (fun K hK => ?_) ?_
    · rw [if_pos (by rfl)]
      refine wp_of_run (w' := X.alloc (.cells #[.int .u8 0, .int .u8 0, .int .u8 0] 24)) (.pointer (some ⟨X.heap.size, 0, none⟩)) (by kernel_rfl) (hK.out _ _ (hX.alloc hX.size _) (fun _ => ?_))
      rw [hF]
      show F _ _ (Act.put _ (some 11) _) _
      rw [actW_11]
      exact ST_1_0123.out _ g8 g9 g10 X.heap.size (hX.alloc hX.size _) (rg8.below ((Below.refl _ _).alloc (Nat.le_refl _) _) rg8.lt) bg8 (rg9.below ((Below.refl _ _).alloc (Nat.le_refl _) _) rg9.lt) bg9 (rg10.below ((Below.refl _ _).alloc (Nat.le_refl _) _) rg10.lt) bg10 (show GRow _ _ _ 0 0 0 from alloc_at _ _) hX.size dg8g9 dg8g10 (Nat.ne_of_lt rg8.lt) dg9g10 (Nat.ne_of_lt rg9.lt) (Nat.ne_of_lt rg10.lt)
    exact AllReadyH.nil)
  have ST_1_013 : Hid (∀ (X : World) (g8 g9 g11 : Nat) (hX : Below W1.heap.size W1 X) (rg8 : GRow X g8 24 0 0 0) (bg8 : W1.heap.size ≤ g8) (rg9 : GRow X g9 24 0 0 0) (bg9 : W1.heap.size ≤ g9) (rg11 : GRow X g11 24 0 0 0) (bg11 : W1.heap.size ≤ g11) (dg8g9 : g8 ≠ g9) (dg8g11 : g8 ≠ g11) (dg9g11 : g9 ≠ g11), F 8 #[true, true, true, true, true, false, true, true, false, true, true, false, true, true, false, true, false, false, false, false] (actW o i e v w0.heap.size (.pointer (some ⟨g8, 0, none⟩)) (.pointer (some ⟨g9, 0, none⟩)) undef (.pointer (some ⟨g11, 0, none⟩)) (gv n i e) undef undef undef) X) := Lib.hid (by
    intro X g8 g9 g11 hX rg8 bg8 rg9 bg9 rg11 bg11 dg8g9 dg8g11 dg9g11
    rw [← hF]
    refine wpAnyH_ready (rs := [5, 14]) (by kernel_rfl) (by simp) ?_
    refine AllReadyH.cons rfl (fun K hK => ?_) ?_
    · rw [if_pos (by rfl)]
      refine wp_call_ret 6 _ _ rfl _ (by rfl) (by kernel_rfl) _ (K2.out _) (fun X2 hB => hK.out _ _ (hX.trans (hB.mono hX.size)) (fun _ => ?_))
      rw [hF]
      show F _ _ (Act.put _ (some 25) _) _
      rw [actW_25]
      exact ST_2_013.out X2 g8 g9 g11 (hX.trans (hB.mono hX.size)) (rg8.below hB rg8.lt) bg8 (rg9.below hB rg9.lt) bg9 (rg11.below hB rg11.lt) bg11 dg8g9 dg8g11 dg9g11
    refine AllReadyH.cons rfl (fun K hK => ?_) ?_
    · rw [if_pos (by rfl)]
      refine wp_of_run (w' := X.alloc (.cells #[.int .u8 0, .int .u8 0, .int .u8 0] 24)) (.pointer (some ⟨X.heap.size, 0, none⟩)) (by kernel_rfl) (hK.out _ _ (hX.alloc hX.size _) (fun _ => ?_))
      rw [hF]
      show F _ _ (Act.put _ (some 10) _) _
      rw [actW_10]
      exact ST_1_0123.out _ g8 g9 X.heap.size g11 (hX.alloc hX.size _) (rg8.below ((Below.refl _ _).alloc (Nat.le_refl _) _) rg8.lt) bg8 (rg9.below ((Below.refl _ _).alloc (Nat.le_refl _) _) rg9.lt) bg9 (show GRow _ _ _ 0 0 0 from alloc_at _ _) hX.size (rg11.below ((Below.refl _ _).alloc (Nat.le_refl _) _) rg11.lt) bg11 dg8g9 (Nat.ne_of_lt rg8.lt) dg8g11 (Nat.ne_of_lt rg9.lt) dg9g11 (Nat.ne_of_gt rg11.lt)
    exact AllReadyH.nil)
  have ST_1_023 : Hid (∀ (X : World) (g8 g10 g11 : Nat) (hX : Below W1.heap.size W1 X) (rg8 : GRow X g8 24 0 0 0) (bg8 : W1.heap.size ≤ g8) (rg10 : GRow X g10 24 0 0 0) (bg10 : W1.heap.size ≤ g10) (rg11 : GRow X g11 24 0 0 0) (bg11 : W1.heap.size ≤ g11) (dg8g10 : g8 ≠ g10) (dg8g11 : g8 ≠ g11) (dg10g11 : g10 ≠ g11), F 8 #[true, true, true, true, true, false, true, true, false, true, true, false, true, false, true, true, false, false, false, false] (actW o i e v w0.heap.size (.pointer (some ⟨g8, 0, none⟩)) undef (.pointer (some ⟨g10, 0, none⟩)) (.pointer (some ⟨g11, 0, none⟩)) (gv n i e) undef undef undef) X) := Lib.hid (by
    intro X g8 g10 g11 hX rg8 bg8 rg10 bg10 rg11 bg11 dg8g10 dg8g11 dg10g11
    rw [← hF]
    refine wpAnyH_ready (rs := [5, 13]) (by kernel_rfl) (by simp) ?_
    refine AllReadyH.cons rfl (fun K hK => ?_) ?_
    · rw [if_pos (by rfl)]
      refine wp_call_ret 6 _ _ rfl _ (by rfl) (by kernel_rfl) _ (K2.out _) (fun X2 hB => hK.out _ _ (hX.trans (hB.mono hX.size)) (fun _ => ?_))
      rw [hF]
      show F _ _ (Act.put _ (some 25) _) _
      rw [actW_25]
      exact ST_2_023.out X2 g8 g10 g11 (hX.trans (hB.mono hX.size)) (rg8.below hB rg8.lt) bg8 (rg10.below hB rg10.lt) bg10 (rg11.below hB rg11.lt) bg11 dg8g10 dg8g11 dg10g11
    refine AllReadyH.cons rfl (fun K hK => ?_) ?_
    · rw [if_pos (by rfl)]
      refine wp_of_run (w' := X.alloc (.cells #[.int .u8 0, .int .u8 0, .int .u8 0] 24)) (.pointer (some ⟨X.heap.size, 0, none⟩)) (by kernel_rfl) (hK.out _ _ (hX.alloc hX.size _) (fun _ => ?_))
      rw [hF]
      show F _ _ (Act.put _ (some 9) _) _
      rw [actW_9]
      exact ST_1_0123.out _ g8 X.heap.size g10 g11 (hX.alloc hX.size _) (rg8.below ((Below.refl _ _).alloc (Nat.le_refl _) _) rg8.lt) bg8 (show GRow _ _ _ 0 0 0 from alloc_at _ _) hX.size (rg10.below ((Below.refl _ _).alloc (Nat.le_refl _) _) rg10.lt) bg10 (rg11.below ((Below.refl _ _).alloc (Nat.le_refl _) _) rg11.lt) bg11 (Nat.ne_of_lt rg8.lt) dg8g10 dg8g11 (Nat.ne_of_gt rg10.lt) (Nat.ne_of_gt rg11.lt) dg10g11
    exact AllReadyH.nil)
  have ST_1_123 : Hid (∀ (X : World) (g9 g10 g11 : Nat) (hX : Below W1.heap.size W1 X) (rg9 : GRow X g9 24 0 0 0) (bg9 : W1.heap.size ≤ g9) (rg10 : GRow X g10 24 0 0 0) (bg10 : W1.heap.size ≤ g10) (rg11 : GRow X g11 24 0 0 0) (bg11 : W1.heap.size ≤ g11) (dg9g10 : g9 ≠ g10) (dg9g11 : g9 ≠ g11) (dg10g11 : g10 ≠ g11), F 8 #[true, true, true, true, true, false, true, true, false, true, true, false, false, true, true, true, false, false, false, false] (actW o i e v w0.heap.size undef (.pointer (some ⟨g9, 0, none⟩)) (.pointer (some ⟨g10, 0, none⟩)) (.pointer (some ⟨g11, 0, none⟩)) (gv n i e) undef undef undef) X) := Lib.hid (by
    intro X g9 g10 g11 hX rg9 bg9 rg10 bg10 rg11 bg11 dg9g10 dg9g11 dg10g11
    rw [← hF]
    refine wpAnyH_ready (rs := [5, 12]) (by kernel_rfl) (by simp) ?_
    refine AllReadyH.cons rfl (fun K hK => ?_) ?_
    · rw [if_pos (by rfl)]
      refine wp_call_ret 6 _ _ rfl _ (by rfl) (by kernel_rfl) _ (K2.out _) (fun X2 hB => hK.out _ _ (hX.trans (hB.mono hX.size)) (fun _ => ?_))
      rw [hF]
      show F _ _ (Act.put _ (some 25) _) _
      rw [actW_25]
      exact ST_2_123.out X2 g9 g10 g11 (hX.trans (hB.mono hX.size)) (rg9.below hB rg9.lt) bg9 (rg10.below hB rg10.lt) bg10 (rg11.below hB rg11.lt) bg11 dg9g10 dg9g11 dg10g11
    refine AllReadyH.cons rfl (fun K hK => ?_) ?_
    · rw [if_pos (by rfl)]
      refine wp_of_run (w' := X.alloc (.cells #[.int .u8 0, .int .u8 0, .int .u8 0] 24)) (.pointer (some ⟨X.heap.size, 0, none⟩)) (by kernel_rfl) (hK.out _ _ (hX.alloc hX.size _) (fun _ => ?_))
      rw [hF]
      show F _ _ (Act.put _ (some 8) _) _
      rw [actW_8]
      exact ST_1_0123.out _ X.heap.size g9 g10 g11 (hX.alloc hX.size _) (show GRow _ _ _ 0 0 0 from alloc_at _ _) hX.size (rg9.below ((Below.refl _ _).alloc (Nat.le_refl _) _) rg9.lt) bg9 (rg10.below ((Below.refl _ _).alloc (Nat.le_refl _) _) rg10.lt) bg10 (rg11.below ((Below.refl _ _).alloc (Nat.le_refl _) _) rg11.lt) bg11 (Nat.ne_of_gt rg9.lt) (Nat.ne_of_gt rg10.lt) (Nat.ne_of_gt rg11.lt) dg9g10 dg9g11 dg10g11
    exact AllReadyH.nil)
  have ST_1_01 : Hid (∀ (X : World) (g8 g9 : Nat) (hX : Below W1.heap.size W1 X) (rg8 : GRow X g8 24 0 0 0) (bg8 : W1.heap.size ≤ g8) (rg9 : GRow X g9 24 0 0 0) (bg9 : W1.heap.size ≤ g9) (dg8g9 : g8 ≠ g9), F 9 #[true, true, true, true, true, false, true, true, false, true, true, false, true, true, false, false, false, false, false, false] (actW o i e v w0.heap.size (.pointer (some ⟨g8, 0, none⟩)) (.pointer (some ⟨g9, 0, none⟩)) undef undef (gv n i e) undef undef undef) X) := Lib.hid (by
    intro X g8 g9 hX rg8 bg8 rg9 bg9 dg8g9
    rw [← hF]
    refine wpAnyH_ready (rs := [5, 14, 15]) (by kernel_rfl) (by simp) ?_
    refine AllReadyH.cons rfl (fun K hK => ?_) ?_
    · rw [if_pos (by rfl)]
      refine wp_call_ret 6 _ _ rfl _ (by rfl) (by kernel_rfl) _ (K2.out _) (fun X2 hB => hK.out _ _ (hX.trans (hB.mono hX.size)) (fun _ => ?_))
      rw [hF]
      show F _ _ (Act.put _ (some 25) _) _
      rw [actW_25]
      exact ST_2_01.out X2 g8 g9 (hX.trans (hB.mono hX.size)) (rg8.below hB rg8.lt) bg8 (rg9.below hB rg9.lt) bg9 dg8g9
    refine AllReadyH.cons rfl (fun K hK => ?_) ?_
    · rw [if_pos (by rfl)]
      refine wp_of_run (w' := X.alloc (.cells #[.int .u8 0, .int .u8 0, .int .u8 0] 24)) (.pointer (some ⟨X.heap.size, 0, none⟩)) (by kernel_rfl) (hK.out _ _ (hX.alloc hX.size _) (fun _ => ?_))
      rw [hF]
      show F _ _ (Act.put _ (some 10) _) _
      rw [actW_10]
      exact ST_1_012.out _ g8 g9 X.heap.size (hX.alloc hX.size _) (rg8.below ((Below.refl _ _).alloc (Nat.le_refl _) _) rg8.lt) bg8 (rg9.below ((Below.refl _ _).alloc (Nat.le_refl _) _) rg9.lt) bg9 (show GRow _ _ _ 0 0 0 from alloc_at _ _) hX.size dg8g9 (Nat.ne_of_lt rg8.lt) (Nat.ne_of_lt rg9.lt)
    refine AllReadyH.cons rfl (fun K hK => ?_) ?_
    · rw [if_pos (by rfl)]
      refine wp_of_run (w' := X.alloc (.cells #[.int .u8 0, .int .u8 0, .int .u8 0] 24)) (.pointer (some ⟨X.heap.size, 0, none⟩)) (by kernel_rfl) (hK.out _ _ (hX.alloc hX.size _) (fun _ => ?_))
      rw [hF]
      show F _ _ (Act.put _ (some 11) _) _
      rw [actW_11]
      exact ST_1_013.out _ g8 g9 X.heap.size (hX.alloc hX.size _) (rg8.below ((Below.refl _ _).alloc (Nat.le_refl _) _) rg8.lt) bg8 (rg9.below ((Below.refl _ _).alloc (Nat.le_refl _) _) rg9.lt) bg9 (show GRow _ _ _ 0 0 0 from alloc_at _ _) hX.size dg8g9 (Nat.ne_of_lt rg8.lt) (Nat.ne_of_lt rg9.lt)
    exact AllReadyH.nil)
  have ST_1_02 : Hid (∀ (X : World) (g8 g10 : Nat) (hX : Below W1.heap.size W1 X) (rg8 : GRow X g8 24 0 0 0) (bg8 : W1.heap.size ≤ g8) (rg10 : GRow X g10 24 0 0 0) (bg10 : W1.heap.size ≤ g10) (dg8g10 : g8 ≠ g10), F 9 #[true, true, true, true, true, false, true, true, false, true, true, false, true, false, true, false, false, false, false, false] (actW o i e v w0.heap.size (.pointer (some ⟨g8, 0, none⟩)) undef (.pointer (some ⟨g10, 0, none⟩)) undef (gv n i e) undef undef undef) X) := Lib.hid (by
    intro X g8 g10 hX rg8 bg8 rg10 bg10 dg8g10
    rw [← hF]
    refine wpAnyH_ready (rs := [5, 13, 15]) (by kernel_rfl) (by simp) ?_
    refine AllReadyH.cons rfl (fun K hK => ?_) ?_
    · rw [if_pos (by rfl)]
      refine wp_call_ret 6 _ _ rfl _ (by rfl) (by kernel_rfl) _ (K2.out _) (fun X2 hB => hK.out _ _ (hX.trans (hB.mono hX.size)) (fun _ => ?_))
      rw [hF]
      show F _ _ (Act.put _ (some 25) _) _
      rw [actW_25]
      exact ST_2_02.out X2 g8 g10 (hX.trans (hB.mono hX.size)) (rg8.below hB rg8.lt) bg8 (rg10.below hB rg10.lt) bg10 dg8g10
    refine AllReadyH.cons rfl (fun K hK => ?_) ?_
    · rw [if_pos (by rfl)]
      refine wp_of_run (w' := X.alloc (.cells #[.int .u8 0, .int .u8 0, .int .u8 0] 24)) (.pointer (some ⟨X.heap.size, 0, none⟩)) (by kernel_rfl) (hK.out _ _ (hX.alloc hX.size _) (fun _ => ?_))
      rw [hF]
      show F _ _ (Act.put _ (some 9) _) _
      rw [actW_9]
      exact ST_1_012.out _ g8 X.heap.size g10 (hX.alloc hX.size _) (rg8.below ((Below.refl _ _).alloc (Nat.le_refl _) _) rg8.lt) bg8 (show GRow _ _ _ 0 0 0 from alloc_at _ _) hX.size (rg10.below ((Below.refl _ _).alloc (Nat.le_refl _) _) rg10.lt) bg10 (Nat.ne_of_lt rg8.lt) dg8g10 (Nat.ne_of_gt rg10.lt)
    refine AllReadyH.cons rfl (fun K hK => ?_) ?_
    · rw [if_pos (by rfl)]
      refine wp_of_run (w' := X.alloc (.cells #[.int .u8 0, .int .u8 0, .int .u8 0] 24)) (.pointer (some ⟨X.heap.size, 0, none⟩)) (by kernel_rfl) (hK.out _ _ (hX.alloc hX.size _) (fun _ => ?_))
      rw [hF]
      show F _ _ (Act.put _ (some 11) _) _
      rw [actW_11]
      exact ST_1_023.out _ g8 g10 X.heap.size (hX.alloc hX.size _) (rg8.below ((Below.refl _ _).alloc (Nat.le_refl _) _) rg8.lt) bg8 (rg10.below ((Below.refl _ _).alloc (Nat.le_refl _) _) rg10.lt) bg10 (show GRow _ _ _ 0 0 0 from alloc_at _ _) hX.size dg8g10 (Nat.ne_of_lt rg8.lt) (Nat.ne_of_lt rg10.lt)
    exact AllReadyH.nil)
  have ST_1_03 : Hid (∀ (X : World) (g8 g11 : Nat) (hX : Below W1.heap.size W1 X) (rg8 : GRow X g8 24 0 0 0) (bg8 : W1.heap.size ≤ g8) (rg11 : GRow X g11 24 0 0 0) (bg11 : W1.heap.size ≤ g11) (dg8g11 : g8 ≠ g11), F 9 #[true, true, true, true, true, false, true, true, false, true, true, false, true, false, false, true, false, false, false, false] (actW o i e v w0.heap.size (.pointer (some ⟨g8, 0, none⟩)) undef undef (.pointer (some ⟨g11, 0, none⟩)) (gv n i e) undef undef undef) X) := Lib.hid (by
    intro X g8 g11 hX rg8 bg8 rg11 bg11 dg8g11
    rw [← hF]
    refine wpAnyH_ready (rs := [5, 13, 14]) (by kernel_rfl) (by simp) ?_
    refine AllReadyH.cons rfl (fun K hK => ?_) ?_
    · rw [if_pos (by rfl)]
      refine wp_call_ret 6 _ _ rfl _ (by rfl) (by kernel_rfl) _ (K2.out _) (fun X2 hB => hK.out _ _ (hX.trans (hB.mono hX.size)) (fun _ => ?_))
      rw [hF]
      show F _ _ (Act.put _ (some 25) _) _
      rw [actW_25]
      exact ST_2_03.out X2 g8 g11 (hX.trans (hB.mono hX.size)) (rg8.below hB rg8.lt) bg8 (rg11.below hB rg11.lt) bg11 dg8g11
    refine AllReadyH.cons rfl (fun K hK => ?_) ?_
    · rw [if_pos (by rfl)]
      refine wp_of_run (w' := X.alloc (.cells #[.int .u8 0, .int .u8 0, .int .u8 0] 24)) (.pointer (some ⟨X.heap.size, 0, none⟩)) (by kernel_rfl) (hK.out _ _ (hX.alloc hX.size _) (fun _ => ?_))
      rw [hF]
      show F _ _ (Act.put _ (some 9) _) _
      rw [actW_9]
      exact ST_1_013.out _ g8 X.heap.size g11 (hX.alloc hX.size _) (rg8.below ((Below.refl _ _).alloc (Nat.le_refl _) _) rg8.lt) bg8 (show GRow _ _ _ 0 0 0 from alloc_at _ _) hX.size (rg11.below ((Below.refl _ _).alloc (Nat.le_refl _) _) rg11.lt) bg11 (Nat.ne_of_lt rg8.lt) dg8g11 (Nat.ne_of_gt rg11.lt)
    refine AllReadyH.cons rfl (fun K hK => ?_) ?_
    · rw [if_pos (by rfl)]
      refine wp_of_run (w' := X.alloc (.cells #[.int .u8 0, .int .u8 0, .int .u8 0] 24)) (.pointer (some ⟨X.heap.size, 0, none⟩)) (by kernel_rfl) (hK.out _ _ (hX.alloc hX.size _) (fun _ => ?_))
      rw [hF]
      show F _ _ (Act.put _ (some 10) _) _
      rw [actW_10]
      exact ST_1_023.out _ g8 X.heap.size g11 (hX.alloc hX.size _) (rg8.below ((Below.refl _ _).alloc (Nat.le_refl _) _) rg8.lt) bg8 (show GRow _ _ _ 0 0 0 from alloc_at _ _) hX.size (rg11.below ((Below.refl _ _).alloc (Nat.le_refl _) _) rg11.lt) bg11 (Nat.ne_of_lt rg8.lt) dg8g11 (Nat.ne_of_gt rg11.lt)
    exact AllReadyH.nil)
  have ST_1_12 : Hid (∀ (X : World) (g9 g10 : Nat) (hX : Below W1.heap.size W1 X) (rg9 : GRow X g9 24 0 0 0) (bg9 : W1.heap.size ≤ g9) (rg10 : GRow X g10 24 0 0 0) (bg10 : W1.heap.size ≤ g10) (dg9g10 : g9 ≠ g10), F 9 #[true, true, true, true, true, false, true, true, false, true, true, false, false, true, true, false, false, false, false, false] (actW o i e v w0.heap.size undef (.pointer (some ⟨g9, 0, none⟩)) (.pointer (some ⟨g10, 0, none⟩)) undef (gv n i e) undef undef undef) X) := Lib.hid (by
    intro X g9 g10 hX rg9 bg9 rg10 bg10 dg9g10
    rw [← hF]
    refine wpAnyH_ready (rs := [5, 12, 15]) (by kernel_rfl) (by simp) ?_
    refine AllReadyH.cons rfl (fun K hK => ?_) ?_
    · rw [if_pos (by rfl)]
      refine wp_call_ret 6 _ _ rfl _ (by rfl) (by kernel_rfl) _ (K2.out _) (fun X2 hB => hK.out _ _ (hX.trans (hB.mono hX.size)) (fun _ => ?_))
      rw [hF]
      show F _ _ (Act.put _ (some 25) _) _
      rw [actW_25]
      exact ST_2_12.out X2 g9 g10 (hX.trans (hB.mono hX.size)) (rg9.below hB rg9.lt) bg9 (rg10.below hB rg10.lt) bg10 dg9g10
    refine AllReadyH.cons rfl (fun K hK => ?_) ?_
    · rw [if_pos (by rfl)]
      refine wp_of_run (w' := X.alloc (.cells #[.int .u8 0, .int .u8 0, .int .u8 0] 24)) (.pointer (some ⟨X.heap.size, 0, none⟩)) (by kernel_rfl) (hK.out _ _ (hX.alloc hX.size _) (fun _ => ?_))
      rw [hF]
      show F _ _ (Act.put _ (some 8) _) _
      rw [actW_8]
      exact ST_1_012.out _ X.heap.size g9 g10 (hX.alloc hX.size _) (show GRow _ _ _ 0 0 0 from alloc_at _ _) hX.size (rg9.below ((Below.refl _ _).alloc (Nat.le_refl _) _) rg9.lt) bg9 (rg10.below ((Below.refl _ _).alloc (Nat.le_refl _) _) rg10.lt) bg10 (Nat.ne_of_gt rg9.lt) (Nat.ne_of_gt rg10.lt) dg9g10
    refine AllReadyH.cons rfl (fun K hK => ?_) ?_
    · rw [if_pos (by rfl)]
      refine wp_of_run (w' := X.alloc (.cells #[.int .u8 0, .int .u8 0, .int .u8 0] 24)) (.pointer (some ⟨X.heap.size, 0, none⟩)) (by kernel_rfl) (hK.out _ _ (hX.alloc hX.size _) (fun _ => ?_))
      rw [hF]
      show F _ _ (Act.put _ (some 11) _) _
      rw [actW_11]
      exact ST_1_123.out _ g9 g10 X.heap.size (hX.alloc hX.size _) (rg9.below ((Below.refl _ _).alloc (Nat.le_refl _) _) rg9.lt) bg9 (rg10.below ((Below.refl _ _).alloc (Nat.le_refl _) _) rg10.lt) bg10 (show GRow _ _ _ 0 0 0 from alloc_at _ _) hX.size dg9g10 (Nat.ne_of_lt rg9.lt) (Nat.ne_of_lt rg10.lt)
    exact AllReadyH.nil)
  have ST_1_13 : Hid (∀ (X : World) (g9 g11 : Nat) (hX : Below W1.heap.size W1 X) (rg9 : GRow X g9 24 0 0 0) (bg9 : W1.heap.size ≤ g9) (rg11 : GRow X g11 24 0 0 0) (bg11 : W1.heap.size ≤ g11) (dg9g11 : g9 ≠ g11), F 9 #[true, true, true, true, true, false, true, true, false, true, true, false, false, true, false, true, false, false, false, false] (actW o i e v w0.heap.size undef (.pointer (some ⟨g9, 0, none⟩)) undef (.pointer (some ⟨g11, 0, none⟩)) (gv n i e) undef undef undef) X) := Lib.hid (by
    intro X g9 g11 hX rg9 bg9 rg11 bg11 dg9g11
    rw [← hF]
    refine wpAnyH_ready (rs := [5, 12, 14]) (by kernel_rfl) (by simp) ?_
    refine AllReadyH.cons rfl (fun K hK => ?_) ?_
    · rw [if_pos (by rfl)]
      refine wp_call_ret 6 _ _ rfl _ (by rfl) (by kernel_rfl) _ (K2.out _) (fun X2 hB => hK.out _ _ (hX.trans (hB.mono hX.size)) (fun _ => ?_))
      rw [hF]
      show F _ _ (Act.put _ (some 25) _) _
      rw [actW_25]
      exact ST_2_13.out X2 g9 g11 (hX.trans (hB.mono hX.size)) (rg9.below hB rg9.lt) bg9 (rg11.below hB rg11.lt) bg11 dg9g11
    refine AllReadyH.cons rfl (fun K hK => ?_) ?_
    · rw [if_pos (by rfl)]
      refine wp_of_run (w' := X.alloc (.cells #[.int .u8 0, .int .u8 0, .int .u8 0] 24)) (.pointer (some ⟨X.heap.size, 0, none⟩)) (by kernel_rfl) (hK.out _ _ (hX.alloc hX.size _) (fun _ => ?_))
      rw [hF]
      show F _ _ (Act.put _ (some 8) _) _
      rw [actW_8]
      exact ST_1_013.out _ X.heap.size g9 g11 (hX.alloc hX.size _) (show GRow _ _ _ 0 0 0 from alloc_at _ _) hX.size (rg9.below ((Below.refl _ _).alloc (Nat.le_refl _) _) rg9.lt) bg9 (rg11.below ((Below.refl _ _).alloc (Nat.le_refl _) _) rg11.lt) bg11 (Nat.ne_of_gt rg9.lt) (Nat.ne_of_gt rg11.lt) dg9g11
    refine AllReadyH.cons rfl (fun K hK => ?_) ?_
    · rw [if_pos (by rfl)]
      refine wp_of_run (w' := X.alloc (.cells #[.int .u8 0, .int .u8 0, .int .u8 0] 24)) (.pointer (some ⟨X.heap.size, 0, none⟩)) (by kernel_rfl) (hK.out _ _ (hX.alloc hX.size _) (fun _ => ?_))
      rw [hF]
      show F _ _ (Act.put _ (some 10) _) _
      rw [actW_10]
      exact ST_1_123.out _ g9 X.heap.size g11 (hX.alloc hX.size _) (rg9.below ((Below.refl _ _).alloc (Nat.le_refl _) _) rg9.lt) bg9 (show GRow _ _ _ 0 0 0 from alloc_at _ _) hX.size (rg11.below ((Below.refl _ _).alloc (Nat.le_refl _) _) rg11.lt) bg11 (Nat.ne_of_lt rg9.lt) dg9g11 (Nat.ne_of_gt rg11.lt)
    exact AllReadyH.nil)
  have ST_1_23 : Hid (∀ (X : World) (g10 g11 : Nat) (hX : Below W1.heap.size W1 X) (rg10 : GRow X g10 24 0 0 0) (bg10 : W1.heap.size ≤ g10) (rg11 : GRow X g11 24 0 0 0) (bg11 : W1.heap.size ≤ g11) (dg10g11 : g10 ≠ g11), F 9 #[true, true, true, true, true, false, true, true, false, true, true, false, false, false, true, true, false, false, false, false] (actW o i e v w0.heap.size undef undef (.pointer (some ⟨g10, 0, none⟩)) (.pointer (some ⟨g11, 0, none⟩)) (gv n i e) undef undef undef) X) := Lib.hid (by
    intro X g10 g11 hX rg10 bg10 rg11 bg11 dg10g11
    rw [← hF]
    refine wpAnyH_ready (rs := [5, 12, 13]) (by kernel_rfl) (by simp) ?_
    refine AllReadyH.cons rfl (fun K hK => ?_) ?_
    · rw [if_pos (by rfl)]
      refine wp_call_ret 6 _ _ rfl _ (by rfl) (by kernel_rfl) _ (K2.out _) (fun X2 hB => hK.out _ _ (hX.trans (hB.mono hX.size)) (fun _ => ?_))
      rw [hF]
      show F _ _ (Act.put _ (some 25) _) _
      rw [actW_25]
      exact ST_2_23.out X2 g10 g11 (hX.trans (hB.mono hX.size)) (rg10.below hB rg10.lt) bg10 (rg11.below hB rg11.lt) bg11 dg10g11
    refine AllReadyH.cons rfl (fun K hK => ?_) ?_
    · rw [if_pos (by rfl)]
      refine wp_of_run (w' := X.alloc (.cells #[.int .u8 0, .int .u8 0, .int .u8 0] 24)) (.pointer (some ⟨X.heap.size, 0, none⟩)) (by kernel_rfl) (hK.out _ _ (hX.alloc hX.size _) (fun _ => ?_))
      rw [hF]
      show F _ _ (Act.put _ (some 8) _) _
      rw [actW_8]
      exact ST_1_023.out _ X.heap.size g10 g11 (hX.alloc hX.size _) (show GRow _ _ _ 0 0 0 from alloc_at _ _) hX.size (rg10.below ((Below.refl _ _).alloc (Nat.le_refl _) _) rg10.lt) bg10 (rg11.below ((Below.refl _ _).alloc (Nat.le_refl _) _) rg11.lt) bg11 (Nat.ne_of_gt rg10.lt) (Nat.ne_of_gt rg11.lt) dg10g11
    refine AllReadyH.cons rfl (fun K hK => ?_) ?_
    · rw [if_pos (by rfl)]
      refine wp_of_run (w' := X.alloc (.cells #[.int .u8 0, .int .u8 0, .int .u8 0] 24)) (.pointer (some ⟨X.heap.size, 0, none⟩)) (by kernel_rfl) (hK.out _ _ (hX.alloc hX.size _) (fun _ => ?_))
      rw [hF]
      show F _ _ (Act.put _ (some 9) _) _
      rw [actW_9]
      exact ST_1_123.out _ X.heap.size g10 g11 (hX.alloc hX.size _) (show GRow _ _ _ 0 0 0 from alloc_at _ _) hX.size (rg10.below ((Below.refl _ _).alloc (Nat.le_refl _) _) rg10.lt) bg10 (rg11.below ((Below.refl _ _).alloc (Nat.le_refl _) _) rg11.lt) bg11 (Nat.ne_of_gt rg10.lt) (Nat.ne_of_gt rg11.lt) dg10g11
    exact AllReadyH.nil)
  have ST_1_0 : Hid (∀ (X : World) (g8 : Nat) (hX : Below W1.heap.size W1 X) (rg8 : GRow X g8 24 0 0 0) (bg8 : W1.heap.size ≤ g8), F 10 #[true, true, true, true, true, false, true, true, false, true, true, false, true, false, false, false, false, false, false, false] (actW o i e v w0.heap.size (.pointer (some ⟨g8, 0, none⟩)) undef undef undef (gv n i e) undef undef undef) X) := Lib.hid (by
    intro X g8 hX rg8 bg8
    rw [← hF]
    refine wpAnyH_ready (rs := [5, 13, 14, 15]) (by kernel_rfl) (by simp) ?_
    refine AllReadyH.cons rfl (fun K hK => ?_) ?_
    · rw [if_pos (by rfl)]
      refine wp_call_ret 6 _ _ rfl _ (by rfl) (by kernel_rfl) _ (K2.out _) (fun X2 hB => hK.out _ _ (hX.trans (hB.mono hX.size)) (fun _ => ?_))
      rw [hF]
      show F _ _ (Act.put _ (some 25) _) _
      rw [actW_25]
      exact ST_2_0.out X2 g8 (hX.trans (hB.mono hX.size)) (rg8.below hB rg8.lt) bg8
    refine AllReadyH.cons rfl (fun K hK => ?_) ?_
    · rw [if_pos (by rfl)]
      refine wp_of_run (w' := X.alloc (.cells #[.int .u8 0, .int .u8 0, .int .u8 0] 24)) (.pointer (some ⟨X.heap.size, 0, none⟩)) (by kernel_rfl) (hK.out _ _ (hX.alloc hX.size _) (fun _ => ?_))
      rw [hF]
      show F _ _ (Act.put _ (some 9) _) _
      rw [actW_9]
      exact ST_1_01.out _ g8 X.heap.size (hX.alloc hX.size _) (rg8.below ((Below.refl _ _).alloc (Nat.le_refl _) _) rg8.lt) bg8 (show GRow _ _ _ 0 0 0 from alloc_at _ _) hX.size (Nat.ne_of_lt rg8.lt)
    refine AllReadyH.cons rfl (fun K hK => ?_) ?_
    · rw [if_pos (by rfl)]
      refine wp_of_run (w' := X.alloc (.cells #[.int .u8 0, .int .u8 0, .int .u8 0] 24)) (.pointer (some ⟨X.heap.size, 0, none⟩)) (by kernel_rfl) (hK.out _ _ (hX.alloc hX.size _) (fun _ => ?_))
      rw [hF]
      show F _ _ (Act.put _ (some 10) _) _
      rw [actW_10]
      exact ST_1_02.out _ g8 X.heap.size (hX.alloc hX.size _) (rg8.below ((Below.refl _ _).alloc (Nat.le_refl _) _) rg8.lt) bg8 (show GRow _ _ _ 0 0 0 from alloc_at _ _) hX.size (Nat.ne_of_lt rg8.lt)
    refine AllReadyH.cons rfl (fun K hK => ?_) ?_
    · rw [if_pos (by rfl)]
      refine wp_of_run (w' := X.alloc (.cells #[.int .u8 0, .int .u8 0, .int .u8 0] 24)) (.pointer (some ⟨X.heap.size, 0, none⟩)) (by kernel_rfl) (hK.out _ _ (hX.alloc hX.size _) (fun _ => ?_))
      rw [hF]
      show F _ _ (Act.put _ (some 11) _) _
      rw [actW_11]
      exact ST_1_03.out _ g8 X.heap.size (hX.alloc hX.size _) (rg8.below ((Below.refl _ _).alloc (Nat.le_refl _) _) rg8.lt) bg8 (show GRow _ _ _ 0 0 0 from alloc_at _ _) hX.size (Nat.ne_of_lt rg8.lt)
    exact AllReadyH.nil)
  have ST_1_1 : Hid (∀ (X : World) (g9 : Nat) (hX : Below W1.heap.size W1 X) (rg9 : GRow X g9 24 0 0 0) (bg9 : W1.heap.size ≤ g9), F 10 #[true, true, true, true, true, false, true, true, false, true, true, false, false, true, false, false, false, false, false, false] (actW o i e v w0.heap.size undef (.pointer (some ⟨g9, 0, none⟩)) undef undef (gv n i e) undef undef undef) X) := Lib.hid (by
    intro X g9 hX rg9 bg9
    rw [← hF]
    refine wpAnyH_ready (rs := [5, 12, 14, 15]) (by kernel_rfl) (by simp) ?_
    refine AllReadyH.cons rfl (fun K hK => ?_) ?_
    · rw [if_pos (by rfl)]
      refine wp_call_ret 6 _ _ rfl _ (by rfl) (by kernel_rfl) _ (K2.out _) (fun X2 hB => hK.out _ _ (hX.trans (hB.mono hX.size)) (fun _ => ?_))
      rw [hF]
      show F _ _ (Act.put _ (some 25) _) _
      rw [actW_25]
      exact ST_2_1.out X2 g9 (hX.trans (hB.mono hX.size)) (rg9.below hB rg9.lt) bg9
    refine AllReadyH.cons rfl (fun K hK => ?_) ?_
    · rw [if_pos (by rfl)]
      refine wp_of_run (w' := X.alloc (.cells #[.int .u8 0, .int .u8 0, .int .u8 0] 24)) (.pointer (some ⟨X.heap.size, 0, none⟩)) (by kernel_rfl) (hK.out _ _ (hX.alloc hX.size _) (fun _ => ?_))
      rw [hF]
      show F _ _ (Act.put _ (some 8) _) _
      rw [actW_8]
      exact ST_1_01.out _ X.heap.size g9 (hX.alloc hX.size _) (show GRow _ _ _ 0 0 0 from alloc_at _ _) hX.size (rg9.below ((Below.refl _ _).alloc (Nat.le_refl _) _) rg9.lt) bg9 (Nat.ne_of_gt rg9.lt)
    refine AllReadyH.cons rfl (fun K hK => ?_) ?_
    · rw [if_pos (by rfl)]
      refine wp_of_run (w' := X.alloc (.cells #[.int .u8 0, .int .u8 0, .int .u8 0] 24)) (.pointer (some ⟨X.heap.size, 0, none⟩)) (by kernel_rfl) (hK.out _ _ (hX.alloc hX.size _) (fun _ => ?_))
      rw [hF]
      show F _ _ (Act.put _ (some 10) _) _
      rw [actW_10]
      exact ST_1_12.out _ g9 X.heap.size (hX.alloc hX.size _) (rg9.below ((Below.refl _ _).alloc (Nat.le_refl _) _) rg9.lt) bg9 (show GRow _ _ _ 0 0 0 from alloc_at _ _) hX.size (Nat.ne_of_lt rg9.lt)
    refine AllReadyH.cons rfl (fun K hK => ?_) ?_
    · rw [if_pos (by rfl)]
      refine wp_of_run (w' := X.alloc (.cells #[.int .u8 0, .int .u8 0, .int .u8 0] 24)) (.pointer (some ⟨X.heap.size, 0, none⟩)) (by kernel_rfl) (hK.out _ _ (hX.alloc hX.size _) (fun _ => ?_))
      rw [hF]
      show F _ _ (Act.put _ (some 11) _) _
      rw [actW_11]
      exact ST_1_13.out _ g9 X.heap.size (hX.alloc hX.size _) (rg9.below ((Below.refl _ _).alloc (Nat.le_refl _) _) rg9.lt) bg9 (show GRow _ _ _ 0 0 0 from alloc_at _ _) hX.size (Nat.ne_of_lt rg9.lt)
    exact AllReadyH.nil)
  have ST_1_2 : Hid (∀ (X : World) (g10 : Nat) (hX : Below W1.heap.size W1 X) (rg10 : GRow X g10 24 0 0 0) (bg10 : W1.heap.size ≤ g10), F 10 #[true, true, true, true, true, false, true, true, false, true, true, false, false, false, true, false, false, false, false, false] (actW o i e v w0.heap.size undef undef (.pointer (some ⟨g10, 0, none⟩)) undef (gv n i e) undef undef undef) X) := Lib.hid (by
    intro X g10 hX rg10 bg10
    rw [← hF]
    refine wpAnyH_ready (rs := [5, 12, 13, 15]) (by kernel_rfl) (by simp) ?_
    refine AllReadyH.cons rfl (fun K hK => ?_) ?_
    · rw [if_pos (by rfl)]
      refine wp_call_ret 6 _ _ rfl _ (by rfl) (by kernel_rfl) _ (K2.out _) (fun X2 hB => hK.out _ _ (hX.trans (hB.mono hX.size)) (fun _ => ?_))
      rw [hF]
      show F _ _ (Act.put _ (some 25) _) _
      rw [actW_25]
      exact ST_2_2.out X2 g10 (hX.trans (hB.mono hX.size)) (rg10.below hB rg10.lt) bg10
    refine AllReadyH.cons rfl (fun K hK => ?_) ?_
    · rw [if_pos (by rfl)]
      refine wp_of_run (w' := X.alloc (.cells #[.int .u8 0, .int .u8 0, .int .u8 0] 24)) (.pointer (some ⟨X.heap.size, 0, none⟩)) (by kernel_rfl) (hK.out _ _ (hX.alloc hX.size _) (fun _ => ?_))
      rw [hF]
      show F _ _ (Act.put _ (some 8) _) _
      rw [actW_8]
      exact ST_1_02.out _ X.heap.size g10 (hX.alloc hX.size _) (show GRow _ _ _ 0 0 0 from alloc_at _ _) hX.size (rg10.below ((Below.refl _ _).alloc (Nat.le_refl _) _) rg10.lt) bg10 (Nat.ne_of_gt rg10.lt)
    refine AllReadyH.cons rfl (fun K hK => ?_) ?_
    · rw [if_pos (by rfl)]
      refine wp_of_run (w' := X.alloc (.cells #[.int .u8 0, .int .u8 0, .int .u8 0] 24)) (.pointer (some ⟨X.heap.size, 0, none⟩)) (by kernel_rfl) (hK.out _ _ (hX.alloc hX.size _) (fun _ => ?_))
      rw [hF]
      show F _ _ (Act.put _ (some 9) _) _
      rw [actW_9]
      exact ST_1_12.out _ X.heap.size g10 (hX.alloc hX.size _) (show GRow _ _ _ 0 0 0 from alloc_at _ _) hX.size (rg10.below ((Below.refl _ _).alloc (Nat.le_refl _) _) rg10.lt) bg10 (Nat.ne_of_gt rg10.lt)
    refine AllReadyH.cons rfl (fun K hK => ?_) ?_
    · rw [if_pos (by rfl)]
      refine wp_of_run (w' := X.alloc (.cells #[.int .u8 0, .int .u8 0, .int .u8 0] 24)) (.pointer (some ⟨X.heap.size, 0, none⟩)) (by kernel_rfl) (hK.out _ _ (hX.alloc hX.size _) (fun _ => ?_))
      rw [hF]
      show F _ _ (Act.put _ (some 11) _) _
      rw [actW_11]
      exact ST_1_23.out _ g10 X.heap.size (hX.alloc hX.size _) (rg10.below ((Below.refl _ _).alloc (Nat.le_refl _) _) rg10.lt) bg10 (show GRow _ _ _ 0 0 0 from alloc_at _ _) hX.size (Nat.ne_of_lt rg10.lt)
    exact AllReadyH.nil)
  have ST_1_3 : Hid (∀ (X : World) (g11 : Nat) (hX : Below W1.heap.size W1 X) (rg11 : GRow X g11 24 0 0 0) (bg11 : W1.heap.size ≤ g11), F 10 #[true, true, true, true, true, false, true, true, false, true, true, false, false, false, false, true, false, false, false, false] (actW o i e v w0.heap.size undef undef undef (.pointer (some ⟨g11, 0, none⟩)) (gv n i e) undef undef undef) X) := Lib.hid (by
    intro X g11 hX rg11 bg11
    rw [← hF]
    refine wpAnyH_ready (rs := [5, 12, 13, 14]) (by kernel_rfl) (by simp) ?_
    refine AllReadyH.cons rfl (fun K hK => ?_) ?_
    · rw [if_pos (by rfl)]
      refine wp_call_ret 6 _ _ rfl _ (by rfl) (by kernel_rfl) _ (K2.out _) (fun X2 hB => hK.out _ _ (hX.trans (hB.mono hX.size)) (fun _ => ?_))
      rw [hF]
      show F _ _ (Act.put _ (some 25) _) _
      rw [actW_25]
      exact ST_2_3.out X2 g11 (hX.trans (hB.mono hX.size)) (rg11.below hB rg11.lt) bg11
    refine AllReadyH.cons rfl (fun K hK => ?_) ?_
    · rw [if_pos (by rfl)]
      refine wp_of_run (w' := X.alloc (.cells #[.int .u8 0, .int .u8 0, .int .u8 0] 24)) (.pointer (some ⟨X.heap.size, 0, none⟩)) (by kernel_rfl) (hK.out _ _ (hX.alloc hX.size _) (fun _ => ?_))
      rw [hF]
      show F _ _ (Act.put _ (some 8) _) _
      rw [actW_8]
      exact ST_1_03.out _ X.heap.size g11 (hX.alloc hX.size _) (show GRow _ _ _ 0 0 0 from alloc_at _ _) hX.size (rg11.below ((Below.refl _ _).alloc (Nat.le_refl _) _) rg11.lt) bg11 (Nat.ne_of_gt rg11.lt)
    refine AllReadyH.cons rfl (fun K hK => ?_) ?_
    · rw [if_pos (by rfl)]
      refine wp_of_run (w' := X.alloc (.cells #[.int .u8 0, .int .u8 0, .int .u8 0] 24)) (.pointer (some ⟨X.heap.size, 0, none⟩)) (by kernel_rfl) (hK.out _ _ (hX.alloc hX.size _) (fun _ => ?_))
      rw [hF]
      show F _ _ (Act.put _ (some 9) _) _
      rw [actW_9]
      exact ST_1_13.out _ X.heap.size g11 (hX.alloc hX.size _) (show GRow _ _ _ 0 0 0 from alloc_at _ _) hX.size (rg11.below ((Below.refl _ _).alloc (Nat.le_refl _) _) rg11.lt) bg11 (Nat.ne_of_gt rg11.lt)
    refine AllReadyH.cons rfl (fun K hK => ?_) ?_
    · rw [if_pos (by rfl)]
      refine wp_of_run (w' := X.alloc (.cells #[.int .u8 0, .int .u8 0, .int .u8 0] 24)) (.pointer (some ⟨X.heap.size, 0, none⟩)) (by kernel_rfl) (hK.out _ _ (hX.alloc hX.size _) (fun _ => ?_))
      rw [hF]
      show F _ _ (Act.put _ (some 10) _) _
      rw [actW_10]
      exact ST_1_23.out _ X.heap.size g11 (hX.alloc hX.size _) (show GRow _ _ _ 0 0 0 from alloc_at _ _) hX.size (rg11.below ((Below.refl _ _).alloc (Nat.le_refl _) _) rg11.lt) bg11 (Nat.ne_of_gt rg11.lt)
    exact AllReadyH.nil)
  have ST_1_ : Hid (∀ (X : World) (hX : Below W1.heap.size W1 X), F 11 #[true, true, true, true, true, false, true, true, false, true, true, false, false, false, false, false, false, false, false, false] (actW o i e v w0.heap.size undef undef undef undef (gv n i e) undef undef undef) X) := Lib.hid (by
    intro X  hX
    rw [← hF]
    refine wpAnyH_ready (rs := [5, 12, 13, 14, 15]) (by kernel_rfl) (by simp) ?_
    refine AllReadyH.cons rfl (fun K hK => ?_) ?_
    · rw [if_pos (by rfl)]
      refine wp_call_ret 6 _ _ rfl _ (by rfl) (by kernel_rfl) _ (K2.out _) (fun X2 hB => hK.out _ _ (hX.trans (hB.mono hX.size)) (fun _ => ?_))
      rw [hF]
      show F _ _ (Act.put _ (some 25) _) _
      rw [actW_25]
      exact ST_2_.out X2  (hX.trans (hB.mono hX.size))
    refine AllReadyH.cons rfl (fun K hK => ?_) ?_
    · rw [if_pos (by rfl)]
      refine wp_of_run (w' := X.alloc (.cells #[.int .u8 0, .int .u8 0, .int .u8 0] 24)) (.pointer (some ⟨X.heap.size, 0, none⟩)) (by kernel_rfl) (hK.out _ _ (hX.alloc hX.size _) (fun _ => ?_))
      rw [hF]
      show F _ _ (Act.put _ (some 8) _) _
      rw [actW_8]
      exact ST_1_0.out _ X.heap.size (hX.alloc hX.size _) (show GRow _ _ _ 0 0 0 from alloc_at _ _) hX.size
    refine AllReadyH.cons rfl (fun K hK => ?_) ?_
    · rw [if_pos (by rfl)]
      refine wp_of_run (w' := X.alloc (.cells #[.int .u8 0, .int .u8 0, .int .u8 0] 24)) (.pointer (some ⟨X.heap.size, 0, none⟩)) (by kernel_rfl) (hK.out _ _ (hX.alloc hX.size _) (fun _ => ?_))
      rw [hF]
      show F _ _ (Act.put _ (some 9) _) _
      rw [actW_9]
      exact ST_1_1.out _ X.heap.size (hX.alloc hX.size _) (show GRow _ _ _ 0 0 0 from alloc_at _ _) hX.size
    refine AllReadyH.cons rfl (fun K hK => ?_) ?_
    · rw [if_pos (by rfl)]
      refine wp_of_run (w' := X.alloc (.cells #[.int .u8 0, .int .u8 0, .int .u8 0] 24)) (.pointer (some ⟨X.heap.size, 0, none⟩)) (by kernel_rfl) (hK.out _ _ (hX.alloc hX.size _) (fun _ => ?_))
      rw [hF]
      show F _ _ (Act.put _ (some 10) _) _
      rw [actW_10]
      exact ST_1_2.out _ X.heap.size (hX.alloc hX.size _) (show GRow _ _ _ 0 0 0 from alloc_at _ _) hX.size
    refine AllReadyH.cons rfl (fun K hK => ?_) ?_
    · rw [if_pos (by rfl)]
      refine wp_of_run (w' := X.alloc (.cells #[.int .u8 0, .int .u8 0, .int .u8 0] 24)) (.pointer (some ⟨X.heap.size, 0, none⟩)) (by kernel_rfl) (hK.out _ _ (hX.alloc hX.size _) (fun _ => ?_))
      rw [hF]
      show F _ _ (Act.put _ (some 11) _) _
      rw [actW_11]
      exact ST_1_3.out _ X.heap.size (hX.alloc hX.size _) (show GRow _ _ _ 0 0 0 from alloc_at _ _) hX.size
    exact AllReadyH.nil)
  have ST_0_0123 : Hid (∀ (X : World) (g8 g9 g10 g11 : Nat) (hX : Below W1.heap.size W1 X) (rg8 : GRow X g8 24 0 0 0) (bg8 : W1.heap.size ≤ g8) (rg9 : GRow X g9 24 0 0 0) (bg9 : W1.heap.size ≤ g9) (rg10 : GRow X g10 24 0 0 0) (bg10 : W1.heap.size ≤ g10) (rg11 : GRow X g11 24 0 0 0) (bg11 : W1.heap.size ≤ g11) (dg8g9 : g8 ≠ g9) (dg8g10 : g8 ≠ g10) (dg8g11 : g8 ≠ g11) (dg9g10 : g9 ≠ g10) (dg9g11 : g9 ≠ g11) (dg10g11 : g10 ≠ g11), F 8 #[true, true, false, true, true, false, true, true, false, true, true, false, true, true, true, true, false, false, false, false] (actW o i e v w0.heap.size (.pointer (some ⟨g8, 0, none⟩)) (.pointer (some ⟨g9, 0, none⟩)) (.pointer (some ⟨g10, 0, none⟩)) (.pointer (some ⟨g11, 0, none⟩)) undef undef undef undef) X) := Lib.hid (by
    intro X g8 g9 g10 g11 hX rg8 bg8 rg9 bg9 rg10 bg10 rg11 bg11 dg8g9 dg8g10 dg8g11 dg9g10 dg9g11 dg10g11
    rw [← hF]
    refine wpAnyH_ready (rs := [2]) (by kernel_rfl) (by simp) ?_
    refine AllReadyH.cons rfl (fun K hK => ?_) ?_
    · rw [if_pos (by rfl)]
      refine wp_call_ret 6 _ _ rfl _ (by rfl) (by kernel_rfl) _ (K0.out _) (fun X2 hB => hK.out _ _ (hX.trans (hB.mono hX.size)) (fun _ => ?_))
      rw [hF]
      show F _ _ (Act.put _ (some 22) _) _
      rw [actW_22]
      exact ST_1_0123.out X2 g8 g9 g10 g11 (hX.trans (hB.mono hX.size)) (rg8.below hB rg8.lt) bg8 (rg9.below hB rg9.lt) bg9 (rg10.below hB rg10.lt) bg10 (rg11.below hB rg11.lt) bg11 dg8g9 dg8g10 dg8g11 dg9g10 dg9g11 dg10g11
    exact AllReadyH.nil)
  have ST_0_012 : Hid (∀ (X : World) (g8 g9 g10 : Nat) (hX : Below W1.heap.size W1 X) (rg8 : GRow X g8 24 0 0 0) (bg8 : W1.heap.size ≤ g8) (rg9 : GRow X g9 24 0 0 0) (bg9 : W1.heap.size ≤ g9) (rg10 : GRow X g10 24 0 0 0) (bg10 : W1.heap.size ≤ g10) (dg8g9 : g8 ≠ g9) (dg8g10 : g8 ≠ g10) (dg9g10 : g9 ≠ g10), F 9 #[true, true, false, true, true, false, true, true, false, true, true, false, true, true, true, false, false, false, false, false] (actW o i e v w0.heap.size (.pointer (some ⟨g8, 0, none⟩)) (.pointer (some ⟨g9, 0, none⟩)) (.pointer (some ⟨g10, 0, none⟩)) undef undef undef undef undef) X) := Lib.hid (by
    intro X g8 g9 g10 hX rg8 bg8 rg9 bg9 rg10 bg10 dg8g9 dg8g10 dg9g10
    rw [← hF]
    refine wpAnyH_ready (rs := [2, 15]) (by kernel_rfl) (by simp) ?_
    refine AllReadyH.cons rfl (fun K hK => ?_) ?_
    · rw [if_pos (by rfl)]
      refine wp_call_ret 6 _ _ rfl _ (by rfl) (by kernel_rfl) _ (K0.out _) (fun X2 hB => hK.out _ _ (hX.trans (hB.mono hX.size)) (fun _ => ?_))
      rw [hF]
      show F _ _ (Act.put _ (some 22) _) _
      rw [actW_22]
      exact ST_1_012.out X2 g8 g9 g10 (hX.trans (hB.mono hX.size)) (rg8.below hB rg8.lt) bg8 (rg9.below hB rg9.lt) bg9 (rg10.below hB rg10.lt) bg10 dg8g9 dg8g10 dg9g10
    refine AllReadyH.cons rfl (fun K hK => ?_) ?_
    · rw [if_pos (by rfl)]
      refine wp_of_run (w' := X.alloc (.cells #[.int .u8 0, .int .u8 0, .int .u8 0] 24)) (.pointer (some ⟨X.heap.size, 0, none⟩)) (by kernel_rfl) (hK.out _ _ (hX.alloc hX.size _) (fun _ => ?_))
      rw [hF]
      show F _ _ (Act.put _ (some 11) _) _
      rw [actW_11]
      exact ST_0_0123.out _ g8 g9 g10 X.heap.size (hX.alloc hX.size _) (rg8.below ((Below.refl _ _).alloc (Nat.le_refl _) _) rg8.lt) bg8 (rg9.below ((Below.refl _ _).alloc (Nat.le_refl _) _) rg9.lt) bg9 (rg10.below ((Below.refl _ _).alloc (Nat.le_refl _) _) rg10.lt) bg10 (show GRow _ _ _ 0 0 0 from alloc_at _ _) hX.size dg8g9 dg8g10 (Nat.ne_of_lt rg8.lt) dg9g10 (Nat.ne_of_lt rg9.lt) (Nat.ne_of_lt rg10.lt)
    exact AllReadyH.nil)
  have ST_0_013 : Hid (∀ (X : World) (g8 g9 g11 : Nat) (hX : Below W1.heap.size W1 X) (rg8 : GRow X g8 24 0 0 0) (bg8 : W1.heap.size ≤ g8) (rg9 : GRow X g9 24 0 0 0) (bg9 : W1.heap.size ≤ g9) (rg11 : GRow X g11 24 0 0 0) (bg11 : W1.heap.size ≤ g11) (dg8g9 : g8 ≠ g9) (dg8g11 : g8 ≠ g11) (dg9g11 : g9 ≠ g11), F 9 #[true, true, false, true, true, false, true, true, false, true, true, false, true, true, false, true, false, false, false, false] (actW o i e v w0.heap.size (.pointer (some ⟨g8, 0, none⟩)) (.pointer (some ⟨g9, 0, none⟩)) undef (.pointer (some ⟨g11, 0, none⟩)) undef undef undef undef) X) := Lib.hid (by
    intro X g8 g9 g11 hX rg8 bg8 rg9 bg9 rg11 bg11 dg8g9 dg8g11 dg9g11
    rw [← hF]
    refine wpAnyH_ready (rs := [2, 14]) (by kernel_rfl) (by simp) ?_
    refine AllReadyH.cons rfl (fun K hK => ?_) ?_
    · rw [if_pos (by rfl)]
      refine wp_call_ret 6 _ _ rfl _ (by rfl) (by kernel_rfl) _ (K0.out _) (fun X2 hB => hK.out _ _ (hX.trans (hB.mono hX.size)) (fun _ => ?_))
      rw [hF]
      show F _ _ (Act.put _ (some 22) _) _
      rw [actW_22]
      exact ST_1_013.out X2 g8 g9 g11 (hX.trans (hB.mono hX.size)) (rg8.below hB rg8.lt) bg8 (rg9.below hB rg9.lt) bg9 (rg11.below hB rg11.lt) bg11 dg8g9 dg8g11 dg9g11
    refine AllReadyH.cons rfl (fun K hK => ?_) ?_
    · rw [if_pos (by rfl)]
      refine wp_of_run (w' := X.alloc (.cells #[.int .u8 0, .int .u8 0, .int .u8 0] 24)) (.pointer (some ⟨X.heap.size, 0, none⟩)) (by kernel_rfl) (hK.out _ _ (hX.alloc hX.size _) (fun _ => ?_))
      rw [hF]
      show F _ _ (Act.put _ (some 10) _) _
      rw [actW_10]
      exact ST_0_0123.out _ g8 g9 X.heap.size g11 (hX.alloc hX.size _) (rg8.below ((Below.refl _ _).alloc (Nat.le_refl _) _) rg8.lt) bg8 (rg9.below ((Below.refl _ _).alloc (Nat.le_refl _) _) rg9.lt) bg9 (show GRow _ _ _ 0 0 0 from alloc_at _ _) hX.size (rg11.below ((Below.refl _ _).alloc (Nat.le_refl _) _) rg11.lt) bg11 dg8g9 (Nat.ne_of_lt rg8.lt) dg8g11 (Nat.ne_of_lt rg9.lt) dg9g11 (Nat.ne_of_gt rg11.lt)
    exact AllReadyH.nil)
  have ST_0_023 : Hid (∀ (X : World) (g8 g10 g11 : Nat) (hX : Below W1.heap.size W1 X) (rg8 : GRow X g8 24 0 0 0) (bg8 : W1.heap.size ≤ g8) (rg10 : GRow X g10 24 0 0 0) (bg10 : W1.heap.size ≤ g10) (rg11 : GRow X g11 24 0 0 0) (bg11 : W1.heap.size ≤ g11) (dg8g10 : g8 ≠ g10) (dg8g11 : g8 ≠ g11) (dg10g11 : g10 ≠ g11), F 9 #[true, true, false, true, true, false, true, true, false, true, true, false, true, false, true, true, false, false, false, false] (actW o i e v w0.heap.size (.pointer (some ⟨g8, 0, none⟩)) undef (.pointer (some ⟨g10, 0, none⟩)) (.pointer (some ⟨g11, 0, none⟩)) undef undef undef undef) X) := Lib.hid (by
    intro X g8 g10 g11 hX rg8 bg8 rg10 bg10 rg11 bg11 dg8g10 dg8g11 dg10g11
    rw [← hF]
    refine wpAnyH_ready (rs := [2, 13]) (by kernel_rfl) (by simp) ?_
    refine AllReadyH.cons rfl (fun K hK => ?_) ?_
    · rw [if_pos (by rfl)]
      refine wp_call_ret 6 _ _ rfl _ (by rfl) (by kernel_rfl) _ (K0.out _) (fun X2 hB => hK.out _ _ (hX.trans (hB.mono hX.size)) (fun _ => ?_))
      rw [hF]
      show F _ _ (Act.put _ (some 22) _) _
      rw [actW_22]
      exact ST_1_023.out X2 g8 g10 g11 (hX.trans (hB.mono hX.size)) (rg8.below hB rg8.lt) bg8 (rg10.below hB rg10.lt) bg10 (rg11.below hB rg11.lt) bg11 dg8g10 dg8g11 dg10g11
    refine AllReadyH.cons rfl (fun K hK => ?_) ?_
    · rw [if_pos (by rfl)]
      refine wp_of_run (w' := X.alloc (.cells #[.int .u8 0, .int .u8 0, .int .u8 0] 24)) (.pointer (some ⟨X.heap.size, 0, none⟩)) (by kernel_rfl) (hK.out _ _ (hX.alloc hX.size _) (fun _ => ?_))
      rw [hF]
      show F _ _ (Act.put _ (some 9) _) _
      rw [actW_9]
      exact ST_0_0123.out _ g8 X.heap.size g10 g11 (hX.alloc hX.size _) (rg8.below ((Below.refl _ _).alloc (Nat.le_refl _) _) rg8.lt) bg8 (show GRow _ _ _ 0 0 0 from alloc_at _ _) hX.size (rg10.below ((Below.refl _ _).alloc (Nat.le_refl _) _) rg10.lt) bg10 (rg11.below ((Below.refl _ _).alloc (Nat.le_refl _) _) rg11.lt) bg11 (Nat.ne_of_lt rg8.lt) dg8g10 dg8g11 (Nat.ne_of_gt rg10.lt) (Nat.ne_of_gt rg11.lt) dg10g11
    exact AllReadyH.nil)
  have ST_0_123 : Hid (∀ (X : World) (g9 g10 g11 : Nat) (hX : Below W1.heap.size W1 X) (rg9 : GRow X g9 24 0 0 0) (bg9 : W1.heap.size ≤ g9) (rg10 : GRow X g10 24 0 0 0) (bg10 : W1.heap.size ≤ g10) (rg11 : GRow X g11 24 0 0 0) (bg11 : W1.heap.size ≤ g11) (dg9g10 : g9 ≠ g10) (dg9g11 : g9 ≠ g11) (dg10g11 : g10 ≠ g11), F 9 #[true, true, false, true, true, false, true, true, false, true, true, false, false, true, true, true, false, false, false, false] (actW o i e v w0.heap.size undef (.pointer (some ⟨g9, 0, none⟩)) (.pointer (some ⟨g10, 0, none⟩)) (.pointer (some ⟨g11, 0, none⟩)) undef undef undef undef) X) := Lib.hid (by
    intro X g9 g10 g11 hX rg9 bg9 rg10 bg10 rg11 bg11 dg9g10 dg9g11 dg10g11
    rw [← hF]
    refine wpAnyH_ready (rs := [2, 12]) (by kernel_rfl) (by simp) ?_
    refine AllReadyH.cons rfl (fun K hK => ?_) ?_
    · rw [if_pos (by rfl)]
      refine wp_call_ret 6 _ _ rfl _ (by rfl) (by kernel_rfl) _ (K0.out _) (fun X2 hB => hK.out _ _ (hX.trans (hB.mono hX.size)) (fun _ => ?_))
      rw [hF]
      show F _ _ (Act.put _ (some 22) _) _
      rw [actW_22]
      exact ST_1_123.out X2 g9 g10 g11 (hX.trans (hB.mono hX.size)) (rg9.below hB rg9.lt) bg9 (rg10.below hB rg10.lt) bg10 (rg11.below hB rg11.lt) bg11 dg9g10 dg9g11 dg10g11
    refine AllReadyH.cons rfl (fun K hK => ?_) ?_
    · rw [if_pos (by rfl)]
      refine wp_of_run (w' := X.alloc (.cells #[.int .u8 0, .int .u8 0, .int .u8 0] 24)) (.pointer (some ⟨X.heap.size, 0, none⟩)) (by kernel_rfl) (hK.out _ _ (hX.alloc hX.size _) (fun _ => ?_))
      rw [hF]
      show F _ _ (Act.put _ (some 8) _) _
      rw [actW_8]
      exact ST_0_0123.out _ X.heap.size g9 g10 g11 (hX.alloc hX.size _) (show GRow _ _ _ 0 0 0 from alloc_at _ _) hX.size (rg9.below ((Below.refl _ _).alloc (Nat.le_refl _) _) rg9.lt) bg9 (rg10.below ((Below.refl _ _).alloc (Nat.le_refl _) _) rg10.lt) bg10 (rg11.below ((Below.refl _ _).alloc (Nat.le_refl _) _) rg11.lt) bg11 (Nat.ne_of_gt rg9.lt) (Nat.ne_of_gt rg10.lt) (Nat.ne_of_gt rg11.lt) dg9g10 dg9g11 dg10g11
    exact AllReadyH.nil)
  have ST_0_01 : Hid (∀ (X : World) (g8 g9 : Nat) (hX : Below W1.heap.size W1 X) (rg8 : GRow X g8 24 0 0 0) (bg8 : W1.heap.size ≤ g8) (rg9 : GRow X g9 24 0 0 0) (bg9 : W1.heap.size ≤ g9) (dg8g9 : g8 ≠ g9), F 10 #[true, true, false, true, true, false, true, true, false, true, true, false, true, true, false, false, false, false, false, false] (actW o i e v w0.heap.size (.pointer (some ⟨g8, 0, none⟩)) (.pointer (some ⟨g9, 0, none⟩)) undef undef undef undef undef undef) X) := Lib.hid (by
    intro X g8 g9 hX rg8 bg8 rg9 bg9 dg8g9
    rw [← hF]
    refine wpAnyH_ready (rs := [2, 14, 15]) (by kernel_rfl) (by simp) ?_
    refine AllReadyH.cons rfl (fun K hK => ?_) ?_
    · rw [if_pos (by rfl)]
      refine wp_call_ret 6 _ _ rfl _ (by rfl) (by kernel_rfl) _ (K0.out _) (fun X2 hB => hK.out _ _ (hX.trans (hB.mono hX.size)) (fun _ => ?_))
      rw [hF]
      show F _ _ (Act.put _ (some 22) _) _
      rw [actW_22]
      exact ST_1_01.out X2 g8 g9 (hX.trans (hB.mono hX.size)) (rg8.below hB rg8.lt) bg8 (rg9.below hB rg9.lt) bg9 dg8g9
    refine AllReadyH.cons rfl (fun K hK => ?_) ?_
    · rw [if_pos (by rfl)]
      refine wp_of_run (w' := X.alloc (.cells #[.int .u8 0, .int .u8 0, .int .u8 0] 24)) (.pointer (some ⟨X.heap.size, 0, none⟩)) (by kernel_rfl) (hK.out _ _ (hX.alloc hX.size _) (fun _ => ?_))
      rw [hF]
      show F _ _ (Act.put _ (some 10) _) _
      rw [actW_10]
      exact ST_0_012.out _ g8 g9 X.heap.size (hX.alloc hX.size _) (rg8.below ((Below.refl _ _).alloc (Nat.le_refl _) _) rg8.lt) bg8 (rg9.below ((Below.refl _ _).alloc (Nat.le_refl _) _) rg9.lt) bg9 (show GRow _ _ _ 0 0 0 from alloc_at _ _) hX.size dg8g9 (Nat.ne_of_lt rg8.lt) (Nat.ne_of_lt rg9.lt)
    refine AllReadyH.cons rfl (fun K hK => ?_) ?_
    · rw [if_pos (by rfl)]
      refine wp_of_run (w' := X.alloc (.cells #[.int .u8 0, .int .u8 0, .int .u8 0] 24)) (.pointer (some ⟨X.heap.size, 0, none⟩)) (by kernel_rfl) (hK.out _ _ (hX.alloc hX.size _) (fun _ => ?_))
      rw [hF]
      show F _ _ (Act.put _ (some 11) _) _
      rw [actW_11]
      exact ST_0_013.out _ g8 g9 X.heap.size (hX.alloc hX.size _) (rg8.below ((Below.refl _ _).alloc (Nat.le_refl _) _) rg8.lt) bg8 (rg9.below ((Below.refl _ _).alloc (Nat.le_refl _) _) rg9.lt) bg9 (show GRow _ _ _ 0 0 0 from alloc_at _ _) hX.size dg8g9 (Nat.ne_of_lt rg8.lt) (Nat.ne_of_lt rg9.lt)
    exact AllReadyH.nil)
  have ST_0_02 : Hid (∀ (X : World) (g8 g10 : Nat) (hX : Below W1.heap.size W1 X) (rg8 : GRow X g8 24 0 0 0) (bg8 : W1.heap.size ≤ g8) (rg10 : GRow X g10 24 0 0 0) (bg10 : W1.heap.size ≤ g10) (dg8g10 : g8 ≠ g10), F 10 #[true, true, false, true, true, false, true, true, false, true, true, false, true, false, true, false, false, false, false, false] (actW o i e v w0.heap.size (.pointer (some ⟨g8, 0, none⟩)) undef (.pointer (some ⟨g10, 0, none⟩)) undef undef undef undef undef) X) := Lib.hid (by
    intro X g8 g10 hX rg8 bg8 rg10 bg10 dg8g10
    rw [← hF]
    refine wpAnyH_ready (rs := [2, 13, 15]) (by kernel_rfl) (by simp) ?_
    refine AllReadyH.cons rfl (fun K hK => ?_) ?_
    · rw [if_pos (by rfl)]
      refine wp_call_ret 6 _ _ rfl _ (by rfl) (by kernel_rfl) _ (K0.out _) (fun X2 hB => hK.out _ _ (hX.trans (hB.mono hX.size)) (fun _ => ?_))
      rw [hF]
      show F _ _ (Act.put _ (some 22) _) _
      rw [actW_22]
      exact ST_1_02.out X2 g8 g10 (hX.trans (hB.mono hX.size)) (rg8.below hB rg8.lt) bg8 (rg10.below hB rg10.lt) bg10 dg8g10
    refine AllReadyH.cons rfl (fun K hK => ?_) ?_
    · rw [if_pos (by rfl)]
      refine wp_of_run (w' := X.alloc (.cells #[.int .u8 0, .int .u8 0, .int .u8 0] 24)) (.pointer (some ⟨X.heap.size, 0, none⟩)) (by kernel_rfl) (hK.out _ _ (hX.alloc hX.size _) (fun _ => ?_))
      rw [hF]
      show F _ _ (Act.put _ (some 9) _) _
      rw [actW_9]
      exact ST_0_012.out _ g8 X.heap.size g10 (hX.alloc hX.size _) (rg8.below ((Below.refl _ _).alloc (Nat.le_refl _) _) rg8.lt) bg8 (show GRow _ _ _ 0 0 0 from alloc_at _ _) hX.size (rg10.below ((Below.refl _ _).alloc (Nat.le_refl _) _) rg10.lt) bg10 (Nat.ne_of_lt rg8.lt) dg8g10 (Nat.ne_of_gt rg10.lt)
    refine AllReadyH.cons rfl (fun K hK => ?_) ?_
    · rw [if_pos (by rfl)]
      refine wp_of_run (w' := X.alloc (.cells #[.int .u8 0, .int .u8 0, .int .u8 0] 24)) (.pointer (some ⟨X.heap.size, 0, none⟩)) (by kernel_rfl) (hK.out _ _ (hX.alloc hX.size _) (fun _ => ?_))
      rw [hF]
      show F _ _ (Act.put _ (some 11) _) _
      rw [actW_11]
      exact ST_0_023.out _ g8 g10 X.heap.size (hX.alloc hX.size _) (rg8.below ((Below.refl _ _).alloc (Nat.le_refl _) _) rg8.lt) bg8 (rg10.below ((Below.refl _ _).alloc (Nat.le_refl _) _) rg10.lt) bg10 (show GRow _ _ _ 0 0 0 from alloc_at _ _) hX.size dg8g10 (Nat.ne_of_lt rg8.lt) (Nat.ne_of_lt rg10.lt)
    exact AllReadyH.nil)
  have ST_0_03 : Hid (∀ (X : World) (g8 g11 : Nat) (hX : Below W1.heap.size W1 X) (rg8 : GRow X g8 24 0 0 0) (bg8 : W1.heap.size ≤ g8) (rg11 : GRow X g11 24 0 0 0) (bg11 : W1.heap.size ≤ g11) (dg8g11 : g8 ≠ g11), F 10 #[true, true, false, true, true, false, true, true, false, true, true, false, true, false, false, true, false, false, false, false] (actW o i e v w0.heap.size (.pointer (some ⟨g8, 0, none⟩)) undef undef (.pointer (some ⟨g11, 0, none⟩)) undef undef undef undef) X) := Lib.hid (by
    intro X g8 g11 hX rg8 bg8 rg11 bg11 dg8g11
    rw [← hF]
    refine wpAnyH_ready (rs := [2, 13, 14]) (by kernel_rfl) (by simp) ?_
    refine AllReadyH.cons rfl (fun K hK => ?_) ?_
    · rw [if_pos (by rfl)]
      refine wp_call_ret 6 _ _ rfl _ (by rfl) (by kernel_rfl) _ (K0.out _) (fun X2 hB => hK.out _ _ (hX.trans (hB.mono hX.size)) (fun _ => ?_))
      rw [hF]
      show F _ _ (Act.put _ (some 22) _) _
      rw [actW_22]
      exact ST_1_03.out X2 g8 g11 (hX.trans (hB.mono hX.size)) (rg8.below hB rg8.lt) bg8 (rg11.below hB rg11.lt) bg11 dg8g11
    refine AllReadyH.cons rfl (fun K hK => ?_) ?_
    · rw [if_pos (by rfl)]
      refine wp_of_run (w' := X.alloc (.cells #[.int .u8 0, .int .u8 0, .int .u8 0] 24)) (.pointer (some ⟨X.heap.size, 0, none⟩)) (by kernel_rfl) (hK.out _ _ (hX.alloc hX.size _) (fun _ => ?_))
      rw [hF]
      show F _ _ (Act.put _ (some 9) _) _
      rw [actW_9]
      exact ST_0_013.out _ g8 X.heap.size g11 (hX.alloc hX.size _) (rg8.below ((Below.refl _ _).alloc (Nat.le_refl _) _) rg8.lt) bg8 (show GRow _ _ _ 0 0 0 from alloc_at _ _) hX.size (rg11.below ((Below.refl _ _).alloc (Nat.le_refl _) _) rg11.lt) bg11 (Nat.ne_of_lt rg8.lt) dg8g11 (Nat.ne_of_gt rg11.lt)
    refine AllReadyH.cons rfl (fun K hK => ?_) ?_
    · rw [if_pos (by rfl)]
      refine wp_of_run (w' := X.alloc (.cells #[.int .u8 0, .int .u8 0, .int .u8 0] 24)) (.pointer (some ⟨X.heap.size, 0, none⟩)) (by kernel_rfl) (hK.out _ _ (hX.alloc hX.size _) (fun _ => ?_))
      rw [hF]
      show F _ _ (Act.put _ (some 10) _) _
      rw [actW_10]
      exact ST_0_023.out _ g8 X.heap.size g11 (hX.alloc hX.size _) (rg8.below ((Below.refl _ _).alloc (Nat.le_refl _) _) rg8.lt) bg8 (show GRow _ _ _ 0 0 0 from alloc_at _ _) hX.size (rg11.below ((Below.refl _ _).alloc (Nat.le_refl _) _) rg11.lt) bg11 (Nat.ne_of_lt rg8.lt) dg8g11 (Nat.ne_of_gt rg11.lt)
    exact AllReadyH.nil)
  have ST_0_12 : Hid (∀ (X : World) (g9 g10 : Nat) (hX : Below W1.heap.size W1 X) (rg9 : GRow X g9 24 0 0 0) (bg9 : W1.heap.size ≤ g9) (rg10 : GRow X g10 24 0 0 0) (bg10 : W1.heap.size ≤ g10) (dg9g10 : g9 ≠ g10), F 10 #[true, true, false, true, true, false, true, true, false, true, true, false, false, true, true, false, false, false, false, false] (actW o i e v w0.heap.size undef (.pointer (some ⟨g9, 0, none⟩)) (.pointer (some ⟨g10, 0, none⟩)) undef undef undef undef undef) X) := Lib.hid (by
    intro X g9 g10 hX rg9 bg9 rg10 bg10 dg9g10
    rw [← hF]
    refine wpAnyH_ready (rs := [2, 12, 15]) (by kernel_rfl) (by simp) ?_
    refine AllReadyH.cons rfl (fun K hK => ?_) ?_
    · rw [if_pos (by rfl)]
      refine wp_call_ret 6 _ _ rfl _ (by rfl) (by kernel_rfl) _ (K0.out _) (fun X2 hB => hK.out _ _ (hX.trans (hB.mono hX.size)) (fun _ => ?_))
      rw [hF]
      show F _ _ (Act.put _ (some 22) _) _
      rw [actW_22]
      exact ST_1_12.out X2 g9 g10 (hX.trans (hB.mono hX.size)) (rg9.below hB rg9.lt) bg9 (rg10.below hB rg10.lt) bg10 dg9g10
    refine AllReadyH.cons rfl (fun K hK => ?_) ?_
    · rw [if_pos (by rfl)]
      refine wp_of_run (w' := X.alloc (.cells #[.int .u8 0, .int .u8 0, .int .u8 0] 24)) (.pointer (some ⟨X.heap.size, 0, none⟩)) (by kernel_rfl) (hK.out _ _ (hX.alloc hX.size _) (fun _ => ?_))
      rw [hF]
      show F _ _ (Act.put _ (some 8) _) _
      rw [actW_8]
      exact ST_0_012.out _ X.heap.size g9 g10 (hX.alloc hX.size _) (show GRow _ _ _ 0 0 0 from alloc_at _ _) hX.size (rg9.below ((Below.refl _ _).alloc (Nat.le_refl _) _) rg9.lt) bg9 (rg10.below ((Below.refl _ _).alloc (Nat.le_refl _) _) rg10.lt) bg10 (Nat.ne_of_gt rg9.lt) (Nat.ne_of_gt rg10.lt) dg9g10
    refine AllReadyH.cons rfl (fun K hK => ?_) ?_
    · rw [if_pos (by rfl)]
      refine wp_of_run (w' := X.alloc (.cells #[.int .u8 0, .int .u8 0, .int .u8 0] 24)) (.pointer (some ⟨X.heap.size, 0, none⟩)) (by kernel_rfl) (hK.out _ _ (hX.alloc hX.size _) (fun _ => ?_))
      rw [hF]
      show F _ _ (Act.put _ (some 11) _) _
      rw [actW_11]
      exact ST_0_123.out _ g9 g10 X.heap.size (hX.alloc hX.size _) (rg9.below ((Below.refl _ _).alloc (Nat.le_refl _) _) rg9.lt) bg9 (rg10.below ((Below.refl _ _).alloc (Nat.le_refl _) _) rg10.lt) bg10 (show GRow _ _ _ 0 0 0 from alloc_at _ _) hX.size dg9g10 (Nat.ne_of_lt rg9.lt) (Nat.ne_of_lt rg10.lt)
    exact AllReadyH.nil)
  have ST_0_13 : Hid (∀ (X : World) (g9 g11 : Nat) (hX : Below W1.heap.size W1 X) (rg9 : GRow X g9 24 0 0 0) (bg9 : W1.heap.size ≤ g9) (rg11 : GRow X g11 24 0 0 0) (bg11 : W1.heap.size ≤ g11) (dg9g11 : g9 ≠ g11), F 10 #[true, true, false, true, true, false, true, true, false, true, true, false, false, true, false, true, false, false, false, false] (actW o i e v w0.heap.size undef (.pointer (some ⟨g9, 0, none⟩)) undef (.pointer (some ⟨g11, 0, none⟩)) undef undef undef undef) X) := Lib.hid (by
    intro X g9 g11 hX rg9 bg9 rg11 bg11 dg9g11
    rw [← hF]
    refine wpAnyH_ready (rs := [2, 12, 14]) (by kernel_rfl) (by simp) ?_
    refine AllReadyH.cons rfl (fun K hK => ?_) ?_
    · rw [if_pos (by rfl)]
      refine wp_call_ret 6 _ _ rfl _ (by rfl) (by kernel_rfl) _ (K0.out _) (fun X2 hB => hK.out _ _ (hX.trans (hB.mono hX.size)) (fun _ => ?_))
      rw [hF]
      show F _ _ (Act.put _ (some 22) _) _
      rw [actW_22]
      exact ST_1_13.out X2 g9 g11 (hX.trans (hB.mono hX.size)) (rg9.below hB rg9.lt) bg9 (rg11.below hB rg11.lt) bg11 dg9g11
    refine AllReadyH.cons rfl (fun K hK => ?_) ?_
    · rw [if_pos (by rfl)]
      refine wp_of_run (w' := X.alloc (.cells #[.int .u8 0, .int .u8 0, .int .u8 0] 24)) (.pointer (some ⟨X.heap.size, 0, none⟩)) (by kernel_rfl) (hK.out _ _ (hX.alloc hX.size _) (fun _ => ?_))
      rw [hF]
      show F _ _ (Act.put _ (some 8) _) _
      rw [actW_8]
      exact ST_0_013.out _ X.heap.size g9 g11 (hX.alloc hX.size _) (show GRow _ _ _ 0 0 0 from alloc_at _ _) hX.size (rg9.below ((Below.refl _ _).alloc (Nat.le_refl _) _) rg9.lt) bg9 (rg11.below ((Below.refl _ _).alloc (Nat.le_refl _) _) rg11.lt) bg11 (Nat.ne_of_gt rg9.lt) (Nat.ne_of_gt rg11.lt) dg9g11
    refine AllReadyH.cons rfl (fun K hK => ?_) ?_
    · rw [if_pos (by rfl)]
      refine wp_of_run (w' := X.alloc (.cells #[.int .u8 0, .int .u8 0, .int .u8 0] 24)) (.pointer (some ⟨X.heap.size, 0, none⟩)) (by kernel_rfl) (hK.out _ _ (hX.alloc hX.size _) (fun _ => ?_))
      rw [hF]
      show F _ _ (Act.put _ (some 10) _) _
      rw [actW_10]
      exact ST_0_123.out _ g9 X.heap.size g11 (hX.alloc hX.size _) (rg9.below ((Below.refl _ _).alloc (Nat.le_refl _) _) rg9.lt) bg9 (show GRow _ _ _ 0 0 0 from alloc_at _ _) hX.size (rg11.below ((Below.refl _ _).alloc (Nat.le_refl _) _) rg11.lt) bg11 (Nat.ne_of_lt rg9.lt) dg9g11 (Nat.ne_of_gt rg11.lt)
    exact AllReadyH.nil)
  have ST_0_23 : Hid (∀ (X : World) (g10 g11 : Nat) (hX : Below W1.heap.size W1 X) (rg10 : GRow X g10 24 0 0 0) (bg10 : W1.heap.size ≤ g10) (rg11 : GRow X g11 24 0 0 0) (bg11 : W1.heap.size ≤ g11) (dg10g11 : g10 ≠ g11), F 10 #[true, true, false, true, true, false, true, true, false, true, true, false, false, false, true, true, false, false, false, false] (actW o i e v w0.heap.size undef undef (.pointer (some ⟨g10, 0, none⟩)) (.pointer (some ⟨g11, 0, none⟩)) undef undef undef undef) X) := Lib.hid (by
    intro X g10 g11 hX rg10 bg10 rg11 bg11 dg10g11
    rw [← hF]
    refine wpAnyH_ready (rs := [2, 12, 13]) (by kernel_rfl) (by simp) ?_
    refine AllReadyH.cons rfl (fun K hK => ?_) ?_
    · rw [if_pos (by rfl)]
      refine wp_call_ret 6 _ _ rfl _ (by rfl) (by kernel_rfl) _ (K0.out _) (fun X2 hB => hK.out _ _ (hX.trans (hB.mono hX.size)) (fun _ => ?_))
      rw [hF]
      show F _ _ (Act.put _ (some 22) _) _
      rw [actW_22]
      exact ST_1_23.out X2 g10 g11 (hX.trans (hB.mono hX.size)) (rg10.below hB rg10.lt) bg10 (rg11.below hB rg11.lt) bg11 dg10g11
    refine AllReadyH.cons rfl (fun K hK => ?_) ?_
    · rw [if_pos (by rfl)]
      refine wp_of_run (w' := X.alloc (.cells #[.int .u8 0, .int .u8 0, .int .u8 0] 24)) (.pointer (some ⟨X.heap.size, 0, none⟩)) (by kernel_rfl) (hK.out _ _ (hX.alloc hX.size _) (fun _ => ?_))
      rw [hF]
      show F _ _ (Act.put _ (some 8) _) _
      rw [actW_8]
      exact ST_0_023.out _ X.heap.size g10 g11 (hX.alloc hX.size _) (show GRow _ _ _ 0 0 0 from alloc_at _ _) hX.size (rg10.below ((Below.refl _ _).alloc (Nat.le_refl _) _) rg10.lt) bg10 (rg11.below ((Below.refl _ _).alloc (Nat.le_refl _) _) rg11.lt) bg11 (Nat.ne_of_gt rg10.lt) (Nat.ne_of_gt rg11.lt) dg10g11
    refine AllReadyH.cons rfl (fun K hK => ?_) ?_
    · rw [if_pos (by rfl)]
      refine wp_of_run (w' := X.alloc (.cells #[.int .u8 0, .int .u8 0, .int .u8 0] 24)) (.pointer (some ⟨X.heap.size, 0, none⟩)) (by kernel_rfl) (hK.out _ _ (hX.alloc hX.size _) (fun _ => ?_))
      rw [hF]
      show F _ _ (Act.put _ (some 9) _) _
      rw [actW_9]
      exact ST_0_123.out _ X.heap.size g10 g11 (hX.alloc hX.size _) (show GRow _ _ _ 0 0 0 from alloc_at _ _) hX.size (rg10.below ((Below.refl _ _).alloc (Nat.le_refl _) _) rg10.lt) bg10 (rg11.below ((Below.refl _ _).alloc (Nat.le_refl _) _) rg11.lt) bg11 (Nat.ne_of_gt rg10.lt) (Nat.ne_of_gt rg11.lt) dg10g11
    exact AllReadyH.nil)
  have ST_0_0 : Hid (∀ (X : World) (g8 : Nat) (hX : Below W1.heap.size W1 X) (rg8 : GRow X g8 24 0 0 0) (bg8 : W1.heap.size ≤ g8), F 11 #[true, true, false, true, true, false, true, true, false, true, true, false, true, false, false, false, false, false, false, false] (actW o i e v w0.heap.size (.pointer (some ⟨g8, 0, none⟩)) undef undef undef undef undef undef undef) X) := Lib.hid (by
    intro X g8 hX rg8 bg8
    rw [← hF]
    refine wpAnyH_ready (rs := [2, 13, 14, 15]) (by kernel_rfl) (by simp) ?_
    refine AllReadyH.cons rfl (fun K hK => ?_) ?_
    · rw [if_pos (by rfl)]
      refine wp_call_ret 6 _ _ rfl _ (by rfl) (by kernel_rfl) _ (K0.out _) (fun X2 hB => hK.out _ _ (hX.trans (hB.mono hX.size)) (fun _ => ?_))
      rw [hF]
      show F _ _ (Act.put _ (some 22) _) _
      rw [actW_22]
      exact ST_1_0.out X2 g8 (hX.trans (hB.mono hX.size)) (rg8.below hB rg8.lt) bg8
    refine AllReadyH.cons rfl (fun K hK => ?_) ?_
    · rw [if_pos (by rfl)]
      refine wp_of_run (w' := X.alloc (.cells #[.int .u8 0, .int .u8 0, .int .u8 0] 24)) (.pointer (some ⟨X.heap.size, 0, none⟩)) (by kernel_rfl) (hK.out _ _ (hX.alloc hX.size _) (fun _ => ?_))
      rw [hF]
      show F _ _ (Act.put _ (some 9) _) _
      rw [actW_9]
      exact ST_0_01.out _ g8 X.heap.size (hX.alloc hX.size _) (rg8.below ((Below.refl _ _).alloc (Nat.le_refl _) _) rg8.lt) bg8 (show GRow _ _ _ 0 0 0 from alloc_at _ _) hX.size (Nat.ne_of_lt rg8.lt)
    refine AllReadyH.cons rfl (fun K hK => ?_) ?_
    · rw [if_pos (by rfl)]
      refine wp_of_run (w' := X.alloc (.cells #[.int .u8 0, .int .u8 0, .int .u8 0] 24)) (.pointer (some ⟨X.heap.size, 0, none⟩)) (by kernel_rfl) (hK.out _ _ (hX.alloc hX.size _) (fun _ => ?_))
      rw [hF]
      show F _ _ (Act.put _ (some 10) _) _
      rw [actW_10]
      exact ST_0_02.out _ g8 X.heap.size (hX.alloc hX.size _) (rg8.below ((Below.refl _ _).alloc (Nat.le_refl _) _) rg8.lt) bg8 (show GRow _ _ _ 0 0 0 from alloc_at _ _) hX.size (Nat.ne_of_lt rg8.lt)
    refine AllReadyH.cons rfl (fun K hK => ?_) ?_
    · rw [if_pos (by rfl)]
      refine wp_of_run (w' := X.alloc (.cells #[.int .u8 0, .int .u8 0, .int .u8 0] 24)) (.pointer (some ⟨X.heap.size, 0, none⟩)) (by kernel_rfl) (hK.out _ _ (hX.alloc hX.size _) (fun _ => ?_))
      rw [hF]
      show F _ _ (Act.put _ (some 11) _) _
      rw [actW_11]
      exact ST_0_03.out _ g8 X.heap.size (hX.alloc hX.size _) (rg8.below ((Below.refl _ _).alloc (Nat.le_refl _) _) rg8.lt) bg8 (show GRow _ _ _ 0 0 0 from alloc_at _ _) hX.size (Nat.ne_of_lt rg8.lt)
    exact AllReadyH.nil)
  have ST_0_1 : Hid (∀ (X : World) (g9 : Nat) (hX : Below W1.heap.size W1 X) (rg9 : GRow X g9 24 0 0 0) (bg9 : W1.heap.size ≤ g9), F 11 #[true, true, false, true, true, false, true, true, false, true, true, false, false, true, false, false, false, false, false, false] (actW o i e v w0.heap.size undef (.pointer (some ⟨g9, 0, none⟩)) undef undef undef undef undef undef) X) := Lib.hid (by
    intro X g9 hX rg9 bg9
    rw [← hF]
    refine wpAnyH_ready (rs := [2, 12, 14, 15]) (by kernel_rfl) (by simp) ?_
    refine AllReadyH.cons rfl (fun K hK => ?_) ?_
    · rw [if_pos (by rfl)]
      refine wp_call_ret 6 _ _ rfl _ (by rfl) (by kernel_rfl) _ (K0.out _) (fun X2 hB => hK.out _ _ (hX.trans (hB.mono hX.size)) (fun _ => ?_))
      rw [hF]
      show F _ _ (Act.put _ (some 22) _) _
      rw [actW_22]
      exact ST_1_1.out X2 g9 (hX.trans (hB.mono hX.size)) (rg9.below hB rg9.lt) bg9
    refine AllReadyH.cons rfl (fun K hK => ?_) ?_
    · rw [if_pos (by rfl)]
      refine wp_of_run (w' := X.alloc (.cells #[.int .u8 0, .int .u8 0, .int .u8 0] 24)) (.pointer (some ⟨X.heap.size, 0, none⟩)) (by kernel_rfl) (hK.out _ _ (hX.alloc hX.size _) (fun _ => ?_))
      rw [hF]
      show F _ _ (Act.put _ (some 8) _) _
      rw [actW_8]
      exact ST_0_01.out _ X.heap.size g9 (hX.alloc hX.size _) (show GRow _ _ _ 0 0 0 from alloc_at _ _) hX.size (rg9.below ((Below.refl _ _).alloc (Nat.le_refl _) _) rg9.lt) bg9 (Nat.ne_of_gt rg9.lt)
    refine AllReadyH.cons rfl (fun K hK => ?_) ?_
    · rw [if_pos (by rfl)]
      refine wp_of_run (w' := X.alloc (.cells #[.int .u8 0, .int .u8 0, .int .u8 0] 24)) (.pointer (some ⟨X.heap.size, 0, none⟩)) (by kernel_rfl) (hK.out _ _ (hX.alloc hX.size _) (fun _ => ?_))
      rw [hF]
      show F _ _ (Act.put _ (some 10) _) _
      rw [actW_10]
      exact ST_0_12.out _ g9 X.heap.size (hX.alloc hX.size _) (rg9.below ((Below.refl _ _).alloc (Nat.le_refl _) _) rg9.lt) bg9 (show GRow _ _ _ 0 0 0 from alloc_at _ _) hX.size (Nat.ne_of_lt rg9.lt)
    refine AllReadyH.cons rfl (fun K hK => ?_) ?_
    · rw [if_pos (by rfl)]
      refine wp_of_run (w' := X.alloc (.cells #[.int .u8 0, .int .u8 0, .int .u8 0] 24)) (.pointer (some ⟨X.heap.size, 0, none⟩)) (by kernel_rfl) (hK.out _ _ (hX.alloc hX.size _) (fun _ => ?_))
      rw [hF]
      show F _ _ (Act.put _ (some 11) _) _
      rw [actW_11]
      exact ST_0_13.out _ g9 X.heap.size (hX.alloc hX.size _) (rg9.below ((Below.refl _ _).alloc (Nat.le_refl _) _) rg9.lt) bg9 (show GRow _ _ _ 0 0 0 from alloc_at _ _) hX.size (Nat.ne_of_lt rg9.lt)
    exact AllReadyH.nil)
  have ST_0_2 : Hid (∀ (X : World) (g10 : Nat) (hX : Below W1.heap.size W1 X) (rg10 : GRow X g10 24 0 0 0) (bg10 : W1.heap.size ≤ g10), F 11 #[true, true, false, true, true, false, true, true, false, true, true, false, false, false, true, false, false, false, false, false] (actW o i e v w0.heap.size undef undef (.pointer (some ⟨g10, 0, none⟩)) undef undef undef undef undef) X) := Lib.hid (by
    intro X g10 hX rg10 bg10
    rw [← hF]
    refine wpAnyH_ready (rs := [2, 12, 13, 15]) (by kernel_rfl) (by simp) ?_
    refine AllReadyH.cons rfl (fun K hK => ?_) ?_
    · rw [if_pos (by rfl)]
      refine wp_call_ret 6 _ _ rfl _ (by rfl) (by kernel_rfl) _ (K0.out _) (fun X2 hB => hK.out _ _ (hX.trans (hB.mono hX.size)) (fun _ => ?_))
      rw [hF]
      show F _ _ (Act.put _ (some 22) _) _
      rw [actW_22]
      exact ST_1_2.out X2 g10 (hX.trans (hB.mono hX.size)) (rg10.below hB rg10.lt) bg10
    refine AllReadyH.cons rfl (fun K hK => ?_) ?_
    · rw [if_pos (by rfl)]
      refine wp_of_run (w' := X.alloc (.cells #[.int .u8 0, .int .u8 0, .int .u8 0] 24)) (.pointer (some ⟨X.heap.size, 0, none⟩)) (by kernel_rfl) (hK.out _ _ (hX.alloc hX.size _) (fun _ => ?_))
      rw [hF]
      show F _ _ (Act.put _ (some 8) _) _
      rw [actW_8]
      exact ST_0_02.out _ X.heap.size g10 (hX.alloc hX.size _) (show GRow _ _ _ 0 0 0 from alloc_at _ _) hX.size (rg10.below ((Below.refl _ _).alloc (Nat.le_refl _) _) rg10.lt) bg10 (Nat.ne_of_gt rg10.lt)
    refine AllReadyH.cons rfl (fun K hK => ?_) ?_
    · rw [if_pos (by rfl)]
      refine wp_of_run (w' := X.alloc (.cells #[.int .u8 0, .int .u8 0, .int .u8 0] 24)) (.pointer (some ⟨X.heap.size, 0, none⟩)) (by kernel_rfl) (hK.out _ _ (hX.alloc hX.size _) (fun _ => ?_))
      rw [hF]
      show F _ _ (Act.put _ (some 9) _) _
      rw [actW_9]
      exact ST_0_12.out _ X.heap.size g10 (hX.alloc hX.size _) (show GRow _ _ _ 0 0 0 from alloc_at _ _) hX.size (rg10.below ((Below.refl _ _).alloc (Nat.le_refl _) _) rg10.lt) bg10 (Nat.ne_of_gt rg10.lt)
    refine AllReadyH.cons rfl (fun K hK => ?_) ?_
    · rw [if_pos (by rfl)]
      refine wp_of_run (w' := X.alloc (.cells #[.int .u8 0, .int .u8 0, .int .u8 0] 24)) (.pointer (some ⟨X.heap.size, 0, none⟩)) (by kernel_rfl) (hK.out _ _ (hX.alloc hX.size _) (fun _ => ?_))
      rw [hF]
      show F _ _ (Act.put _ (some 11) _) _
      rw [actW_11]
      exact ST_0_23.out _ g10 X.heap.size (hX.alloc hX.size _) (rg10.below ((Below.refl _ _).alloc (Nat.le_refl _) _) rg10.lt) bg10 (show GRow _ _ _ 0 0 0 from alloc_at _ _) hX.size (Nat.ne_of_lt rg10.lt)
    exact AllReadyH.nil)
  have ST_0_3 : Hid (∀ (X : World) (g11 : Nat) (hX : Below W1.heap.size W1 X) (rg11 : GRow X g11 24 0 0 0) (bg11 : W1.heap.size ≤ g11), F 11 #[true, true, false, true, true, false, true, true, false, true, true, false, false, false, false, true, false, false, false, false] (actW o i e v w0.heap.size undef undef undef (.pointer (some ⟨g11, 0, none⟩)) undef undef undef undef) X) := Lib.hid (by
    intro X g11 hX rg11 bg11
    rw [← hF]
    refine wpAnyH_ready (rs := [2, 12, 13, 14]) (by kernel_rfl) (by simp) ?_
    refine AllReadyH.cons rfl (fun K hK => ?_) ?_
    · rw [if_pos (by rfl)]
      refine wp_call_ret 6 _ _ rfl _ (by rfl) (by kernel_rfl) _ (K0.out _) (fun X2 hB => hK.out _ _ (hX.trans (hB.mono hX.size)) (fun _ => ?_))
      rw [hF]
      show F _ _ (Act.put _ (some 22) _) _
      rw [actW_22]
      exact ST_1_3.out X2 g11 (hX.trans (hB.mono hX.size)) (rg11.below hB rg11.lt) bg11
    refine AllReadyH.cons rfl (fun K hK => ?_) ?_
    · rw [if_pos (by rfl)]
      refine wp_of_run (w' := X.alloc (.cells #[.int .u8 0, .int .u8 0, .int .u8 0] 24)) (.pointer (some ⟨X.heap.size, 0, none⟩)) (by kernel_rfl) (hK.out _ _ (hX.alloc hX.size _) (fun _ => ?_))
      rw [hF]
      show F _ _ (Act.put _ (some 8) _) _
      rw [actW_8]
      exact ST_0_03.out _ X.heap.size g11 (hX.alloc hX.size _) (show GRow _ _ _ 0 0 0 from alloc_at _ _) hX.size (rg11.below ((Below.refl _ _).alloc (Nat.le_refl _) _) rg11.lt) bg11 (Nat.ne_of_gt rg11.lt)
    refine AllReadyH.cons rfl (fun K hK => ?_) ?_
    · rw [if_pos (by rfl)]
      refine wp_of_run (w' := X.alloc (.cells #[.int .u8 0, .int .u8 0, .int .u8 0] 24)) (.pointer (some ⟨X.heap.size, 0, none⟩)) (by kernel_rfl) (hK.out _ _ (hX.alloc hX.size _) (fun _ => ?_))
      rw [hF]
      show F _ _ (Act.put _ (some 9) _) _
      rw [actW_9]
      exact ST_0_13.out _ X.heap.size g11 (hX.alloc hX.size _) (show GRow _ _ _ 0 0 0 from alloc_at _ _) hX.size (rg11.below ((Below.refl _ _).alloc (Nat.le_refl _) _) rg11.lt) bg11 (Nat.ne_of_gt rg11.lt)
    refine AllReadyH.cons rfl (fun K hK => ?_) ?_
    · rw [if_pos (by rfl)]
      refine wp_of_run (w' := X.alloc (.cells #[.int .u8 0, .int .u8 0, .int .u8 0] 24)) (.pointer (some ⟨X.heap.size, 0, none⟩)) (by kernel_rfl) (hK.out _ _ (hX.alloc hX.size _) (fun _ => ?_))
      rw [hF]
      show F _ _ (Act.put _ (some 10) _) _
      rw [actW_10]
      exact ST_0_23.out _ X.heap.size g11 (hX.alloc hX.size _) (show GRow _ _ _ 0 0 0 from alloc_at _ _) hX.size (rg11.below ((Below.refl _ _).alloc (Nat.le_refl _) _) rg11.lt) bg11 (Nat.ne_of_gt rg11.lt)
    exact AllReadyH.nil)
  have ST_0_ : Hid (∀ (X : World) (hX : Below W1.heap.size W1 X), F 12 #[true, true, false, true, true, false, true, true, false, true, true, false, false, false, false, false, false, false, false, false] (actW o i e v w0.heap.size undef undef undef undef undef undef undef undef) X) := Lib.hid (by
    intro X  hX
    rw [← hF]
    refine wpAnyH_ready (rs := [2, 12, 13, 14, 15]) (by kernel_rfl) (by simp) ?_
    refine AllReadyH.cons rfl (fun K hK => ?_) ?_
    · rw [if_pos (by rfl)]
      refine wp_call_ret 6 _ _ rfl _ (by rfl) (by kernel_rfl) _ (K0.out _) (fun X2 hB => hK.out _ _ (hX.trans (hB.mono hX.size)) (fun _ => ?_))
      rw [hF]
      show F _ _ (Act.put _ (some 22) _) _
      rw [actW_22]
      exact ST_1_.out X2  (hX.trans (hB.mono hX.size))
    refine AllReadyH.cons rfl (fun K hK => ?_) ?_
    · rw [if_pos (by rfl)]
      refine wp_of_run (w' := X.alloc (.cells #[.int .u8 0, .int .u8 0, .int .u8 0] 24)) (.pointer (some ⟨X.heap.size, 0, none⟩)) (by kernel_rfl) (hK.out _ _ (hX.alloc hX.size _) (fun _ => ?_))
      rw [hF]
      show F _ _ (Act.put _ (some 8) _) _
      rw [actW_8]
      exact ST_0_0.out _ X.heap.size (hX.alloc hX.size _) (show GRow _ _ _ 0 0 0 from alloc_at _ _) hX.size
    refine AllReadyH.cons rfl (fun K hK => ?_) ?_
    · rw [if_pos (by rfl)]
      refine wp_of_run (w' := X.alloc (.cells #[.int .u8 0, .int .u8 0, .int .u8 0] 24)) (.pointer (some ⟨X.heap.size, 0, none⟩)) (by kernel_rfl) (hK.out _ _ (hX.alloc hX.size _) (fun _ => ?_))
      rw [hF]
      show F _ _ (Act.put _ (some 9) _) _
      rw [actW_9]
      exact ST_0_1.out _ X.heap.size (hX.alloc hX.size _) (show GRow _ _ _ 0 0 0 from alloc_at _ _) hX.size
    refine AllReadyH.cons rfl (fun K hK => ?_) ?_
    · rw [if_pos (by rfl)]
      refine wp_of_run (w' := X.alloc (.cells #[.int .u8 0, .int .u8 0, .int .u8 0] 24)) (.pointer (some ⟨X.heap.size, 0, none⟩)) (by kernel_rfl) (hK.out _ _ (hX.alloc hX.size _) (fun _ => ?_))
      rw [hF]
      show F _ _ (Act.put _ (some 10) _) _
      rw [actW_10]
      exact ST_0_2.out _ X.heap.size (hX.alloc hX.size _) (show GRow _ _ _ 0 0 0 from alloc_at _ _) hX.size
    refine AllReadyH.cons rfl (fun K hK => ?_) ?_
    · rw [if_pos (by rfl)]
      refine wp_of_run (w' := X.alloc (.cells #[.int .u8 0, .int .u8 0, .int .u8 0] 24)) (.pointer (some ⟨X.heap.size, 0, none⟩)) (by kernel_rfl) (hK.out _ _ (hX.alloc hX.size _) (fun _ => ?_))
      rw [hF]
      show F _ _ (Act.put _ (some 11) _) _
      rw [actW_11]
      exact ST_0_3.out _ X.heap.size (hX.alloc hX.size _) (show GRow _ _ _ 0 0 0 from alloc_at _ _) hX.size
    exact AllReadyH.nil)
  exact ST_0_.out _ (Below.refl _ W1).drew

end Go.Proofs.Yticeeeomhdcffaa
