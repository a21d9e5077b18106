/-
  FoldMeans' walk. Made by wip/genfoldmeans.py.
-/
import Derived.Test.YthmphmndpfkbcaaMade
import Derived.Test.YthmphmndpfkbcaaMeansO
import Derived.Test.YthmphmndpfkbcaaWorks
namespace Go.Proofs.Ythmphmndpfkbcaa
open Go.RowKit
set_option linter.unusedVariables false
/-- The boxes of e and f, behind Fold. -/
structure Bxs (w W : World) (be bf : Nat) (e f : List Value) (Se Sf : Nat → Prop) (Ae Af : Option Nat) (ae af : List Ex) : Prop where
  rowE : W.heap[be]? = some (.cells e.toArray 27 (0, 0))
  rowF : W.heap[bf]? = some (.cells f.toArray 27 (0, 0))
  slE : SlIn Se W Ae ae
  slF : SlIn Sf W Af af
  ltE : ∀ b, Se b → b < W.heap.size
  ltF : ∀ b, Sf b → b < W.heap.size
  below : Below w.heap.size w W
theorem Bxs.under {w W W' : World} {be bf : Nat} {e f : List Value} {Se Sf : Nat → Prop} {Ae Af : Option Nat} {ae af : List Ex} (h : Bxs w W be bf e f Se Sf Ae Af ae af) (hb : Below W.heap.size W W') : Bxs w W' be bf e f Se Sf Ae Af ae af := by
  have hs := hb.size
  have he := (Array.getElem?_eq_some_iff.1 h.rowE).1
  have hf := (Array.getElem?_eq_some_iff.1 h.rowF).1
  exact ⟨by rw [hb.block _ he]; exact h.rowE, by rw [hb.block _ hf]; exact h.rowF, h.slE.under hb h.ltE, h.slF.under hb h.ltF, fun b hb2 => by have := h.ltE b hb2; omega, fun b hb2 => by have := h.ltF b hb2; omega, h.below.trans (hb.mono h.below.size)⟩
theorem two_at0 (w : World) (o o2 : Obj) : ((w.alloc o).alloc o2).heap[w.heap.size]? = some o := by
  rw [Below.heap_alloc _ _ _ (by simp)]
  exact alloc_at w o
theorem same_fin (op at_ : Int) (name field : ByteArray) (n ty ref : Int) (A A' : Option Nat) (c c' : Nat) (args : List Ex) (S S' : Nat → Prop) (r q : Nat) (Z : World)
    (hr : Z.heap[r]? = some (.cells (exL op at_ name field n ty ref A args.length c).toArray 27 (0, 0))) (hq : Z.heap[q]? = some (.cells (exL op at_ name field n ty ref A' args.length c').toArray 27 (0, 0)))
    (h : SlIn S Z A args) (h' : SlIn S' Z A' args) (hl : ∀ b, S b → b < Z.heap.size) (hl' : ∀ b, S' b → b < Z.heap.size) :
    Calls Try.prog 12 #[.slice (some ⟨r, 0, none⟩) 1 1, .slice (some ⟨q, 0, none⟩) 1 1, .bool false] Z fun e w' => e = .returned (.bool true) ∧ Below Z.heap.size Z w' :=
  same_all [.mk op at_ name field n ty ref args] (some r) (some q) 1 1 (fun b => b < Z.heap.size) (fun b => b < Z.heap.size) Z
    (sl_one hr (h.keep hl (fun _ _ _ _ h => h)) (Array.getElem?_eq_some_iff.1 hr).1) (sl_one hq (h'.keep hl' (fun _ _ _ _ h => h)) (Array.getElem?_eq_some_iff.1 hq).1) (fun _ h => h) (fun _ h => h)
theorem fold_again (op at_ : Int) (name field : ByteArray) (n ty ref : Int) (A : Option Nat) (c : Nat) (args : List Ex) (S : Nat → Prop) (w : World) (hff : foldT (.mk op at_ name field n ty ref args) = .mk op at_ name field n ty ref args) (hsl : SlIn S w A args) (hlow : ∀ b, S b → b < w.heap.size) :
    Calls Try.prog 8 #[.agg (exL op at_ name field n ty ref A args.length c).toArray] w fun e w' => ∃ (A' : Option Nat) (c' : Nat) (S' : Nat → Prop), e = .returned (.agg (exL op at_ name field n ty ref A' args.length c').toArray) ∧ SlIn S' w' A' args ∧ (∀ b, S' b → b < w'.heap.size) ∧ Below w.heap.size w w' :=
  (fold_any op at_ name field n ty ref A c args S w hsl hlow).mono fun e w' ⟨op2, at2, name2, field2, n2, ty2, ref2, A2, c2, args2, S2, he, hf, hs, hS, hb⟩ => by
    rw [hff] at hf
    injection hf with e1 e2 e3 e4 e5 e6 e7 e8
    subst e1 e2 e3 e4 e5 e6 e7 e8
    exact ⟨A2, c2, S2, he, hs, fun b hb => (hS b hb).2, hb⟩
theorem two_one (a b : Value) (ha : a.oneCell' = true) (hb : b.oneCell' = true) : ∀ u ∈ [a, b], u.oneCell' = true := by
  intro u hu
  rcases (by simpa using hu : u = a ∨ u = b) with rfl | rfl
  · exact ha
  · exact hb
set_option maxRecDepth 100000 in
set_option maxHeartbeats 4000000 in
theorem means_walk (pv lv wv : Value) (pn : Nat) (w : World) (hp : Pieces w pv pn) (hl : IntsArg w lv) (hw : IntsArg w wv) :
    Calls Try.prog 3 #[pv, lv, wv] w fun e w' => e = .returned (.bool true) ∧ Below w.heap.size w w' := by
  obtain ⟨la, ln, lc, lm, ls, rfl, lmin, lnil, lcap, lmax, hls⟩ := hl.cuts
  obtain ⟨wa, wn, wc, wm, ws, rfl, wmin, wnil, wcap, wmax, hws⟩ := hw.cuts
  have HP := Lib.hid hp
  have HLS := Lib.hid hls
  have HWS := Lib.hid hws
  clear hp hl hw hls hws
  go_enter Try.func3, Try.ntmps3
  go_upto_region 3 with (go_at_call 6; refine (works_any _).mono ?_; rintro e W0 ⟨rfl, hb0⟩; have HB0 := Lib.hid hb0; clear hb0)
  have HP0 : Hid (Pieces W0 pv pn) := by
    rcases HP.out with h | ⟨a, c, h1, h2, h3, h4⟩
    · exact .inl h
    · refine .inr ⟨a, c, h1, h2, by have := HB0.out.size; omega, fun i hi => ?_⟩
      obtain ⟨K, O, T, N, k1, k2, k3, k4, k5⟩ := h4 i hi
      exact ⟨K, O, T, N, k1, k2, k3, k4, k5.below HB0.out (by rw [add_block]; exact h3)⟩
  go_upto_region 4 with (go_at_call 7; refine (made_any pv pn _ HP0.out).mono ?_; rintro e W1 ⟨op1, at1, name1, field1, n1, ty1, ref1, A1, c1, args1, S1, rfl, hok1, hsz1, hsl1, hS1, hb1⟩; have HOK := Lib.hid hok1; have HSZ := Lib.hid hsz1; have HSL1 := Lib.hid hsl1; have HS1 := Lib.hid hS1; have HB1 := Lib.hid (HB0.out.trans (hb1.mono HB0.out.size)); clear hok1 hsz1 hsl1 hS1 hb1)
  have HE0 : Hid (W1.heap.size + 1 ≤ (W1.alloc (.cells (exL op1 at1 name1 field1 n1 ty1 ref1 A1 args1.length c1).toArray 27)).heap.size ∧ (W1.alloc (.cells (exL op1 at1 name1 field1 n1 ty1 ref1 A1 args1.length c1).toArray 27)).heap[W1.heap.size]? = some (.cells (exL op1 at1 name1 field1 n1 ty1 ref1 A1 args1.length c1).toArray 27 (0, 0)) ∧ Below W1.heap.size W1 (W1.alloc (.cells (exL op1 at1 name1 field1 n1 ty1 ref1 A1 args1.length c1).toArray 27))) := ⟨by simp, alloc_at W1 _, (Below.refl _ _).alloc (Nat.le_refl _) _⟩
  change Code.wp _ _ _ _ (W1.alloc (.cells (exL op1 at1 name1 field1 n1 ty1 ref1 A1 args1.length c1).toArray 27))
  generalize W1.alloc (.cells (exL op1 at1 name1 field1 n1 ty1 ref1 A1 args1.length c1).toArray 27) = We at *
  have HSLe := Lib.hid (HSL1.out.under HE0.out.2.2 (fun b hb => (HS1.out b hb).2))
  have HLTe : Hid (∀ b, S1 b → b < We.heap.size) := fun b hb => by have := (HS1.out b hb).2; have := HE0.out.1; omega
  have HBe := Lib.hid (HB1.out.trans (HE0.out.2.2.mono HB1.out.size))
  go_upto_region 5 with (first | (refine wpList_load_at rfl 27 _ rfl W1.heap.size 0 rfl _ _ (row_cells HE0.out.2.1) Try.underlying27 rfl (by kernel_rfl) ?_) | (go_at_call 8; refine (fold_any op1 at1 name1 field1 n1 ty1 ref1 A1 c1 args1 S1 _ HSLe.out HLTe.out).mono ?_; rintro e W2 ⟨op2, at2, name2, field2, n2, ty2, ref2, A2, c2, args2, S2, rfl, hfx, hsl2, hS2, hb2⟩; have HFX := Lib.hid hfx; have HSL2 := Lib.hid hsl2; have HS2 := Lib.hid hS2; have HB2 := Lib.hid hb2; clear hfx hsl2 hS2 hb2))
  have HBX : Hid (Bxs w (W2.alloc (.cells (exL op2 at2 name2 field2 n2 ty2 ref2 A2 args2.length c2).toArray 27)) W1.heap.size W2.heap.size (exL op1 at1 name1 field1 n1 ty1 ref1 A1 args1.length c1) (exL op2 at2 name2 field2 n2 ty2 ref2 A2 args2.length c2) S1 S2 A1 A2 args1 args2) := by
    have hw2 : Below W2.heap.size W2 (W2.alloc (.cells (exL op2 at2 name2 field2 n2 ty2 ref2 A2 args2.length c2).toArray 27)) := (Below.refl _ _).alloc (Nat.le_refl _) _
    have h1 := HE0.out.1
    have h2 := HB2.out.size
    have h3 : W2.heap.size + 1 ≤ (W2.alloc (.cells (exL op2 at2 name2 field2 n2 ty2 ref2 A2 args2.length c2).toArray 27)).heap.size := by simp
    refine ⟨?_, alloc_at W2 _, (HSLe.out.under HB2.out HLTe.out).under hw2 (fun b hb => by have := HLTe.out b hb; omega), HSL2.out.under hw2 (fun b hb => (HS2.out b hb).2), fun b hb => by have := HLTe.out b hb; omega, fun b hb => by have := HS2.out b hb; omega, (HBe.out.trans (HB2.out.mono HBe.out.size)).trans (hw2.mono (by have := HBe.out.size; omega))⟩
    rw [hw2.block _ (by omega), HB2.out.block _ (by omega)]
    exact HE0.out.2.1
  change Code.wp _ _ _ _ (W2.alloc (.cells (exL op2 at2 name2 field2 n2 ty2 ref2 A2 args2.length c2).toArray 27))
  generalize W2.alloc (.cells (exL op2 at2 name2 field2 n2 ty2 ref2 A2 args2.length c2).toArray 27) = Wf at *
  have m1 : (if (10 : Int) < (ln : Int) then (10 : Int) else (ln : Int)) = (lm : Int) := by split <;> omega
  have m2 : (if (10 : Int) < (wn : Int) then (10 : Int) else (wn : Int)) = (wm : Int) := by split <;> omega
  have m3 : (lm : Int) ≤ (lc : Int) := by omega
  have m4 : (wm : Int) ≤ (wc : Int) := by omega
  have m5 : IntKind.i64.wrap (lm : Int) = lm := IntWalk.i64_in _ (by omega)
  refine wp_region_noPanic ?_
  refine wp_region_held_drew (S := (fun _ => True)) (by kernel_rfl) trivial (fun hHeld => ?_)
  refine' take_ 0 rfl (by kernel_rfl) (by kernel_rfl) (by kernel_rfl) (fun _ _ _ h => h) (by rfl) (fun wS hSw => ?_) hHeld ?_
  rotate_left
  focus (go_simp; (try with_reducible rfl); done)
  try simp only [Act.put, List.setIfInBounds_toArray, List.set_cons_zero, List.set_cons_succ]
  refine' take_ 1 rfl (by kernel_rfl) (by kernel_rfl) (by kernel_rfl) (fun _ _ _ h => h) (by rfl) (fun wS hSw => ?_) hHeld ?_
  rotate_left
  focus (go_simp; (try with_reducible rfl); done)
  try simp only [Act.put, List.setIfInBounds_toArray, List.set_cons_zero, List.set_cons_succ]
  refine' take_ 2 rfl (by kernel_rfl) (by kernel_rfl) (by kernel_rfl) (fun _ _ _ h => h) (by rfl) (fun wS hSw => ?_) hHeld ?_
  rotate_left
  focus (go_simp; (try with_reducible rfl); done)
  try simp only [Act.put, List.setIfInBounds_toArray, List.set_cons_zero, List.set_cons_succ]
  refine' take_ 3 rfl (by kernel_rfl) (by kernel_rfl) (by kernel_rfl) (fun _ _ _ h => h) (by rfl) (fun wS hSw => ?_) hHeld ?_
  rotate_left
  focus (go_simp; (try with_reducible rfl); done)
  try simp only [Act.put, List.setIfInBounds_toArray, List.set_cons_zero, List.set_cons_succ]
  refine' take_ 4 rfl (by kernel_rfl) (by kernel_rfl) (by kernel_rfl) (fun _ _ _ h => h) (by rfl) (fun wS hSw => ?_) hHeld ?_
  rotate_left
  focus (go_simp; (try with_reducible rfl); done)
  try simp only [Act.put, List.setIfInBounds_toArray, List.set_cons_zero, List.set_cons_succ]
  refine' take_ 5 rfl (by kernel_rfl) (by kernel_rfl) (by kernel_rfl) (fun _ _ _ h => h) (by rfl) (fun wS hSw => ?_) hHeld ?_
  rotate_left
  focus (go_simp; (try with_reducible rfl); done)
  try simp only [Act.put, List.setIfInBounds_toArray, List.set_cons_zero, List.set_cons_succ]
  refine' take_ 6 rfl (by kernel_rfl) (by kernel_rfl) (by kernel_rfl) (fun _ _ _ h => h) (by rfl) (fun wS hSw => ?_) hHeld ?_
  rotate_left
  focus (go_simp; (try with_reducible rfl); done)
  try simp only [Act.put, List.setIfInBounds_toArray, List.set_cons_zero, List.set_cons_succ]
  refine' take_ 7 rfl (by kernel_rfl) (by kernel_rfl) (by kernel_rfl) (fun _ _ _ h => h) (by rfl) (fun wS hSw => ?_) hHeld ?_
  rotate_left
  focus (go_simp; (try with_reducible rfl); done)
  try simp only [Act.put, List.setIfInBounds_toArray, List.set_cons_zero, List.set_cons_succ]
  refine' take_ 8 rfl (by kernel_rfl) (by kernel_rfl) (by kernel_rfl) (fun _ _ _ h => h) (by rfl) (fun wS hSw => ?_) hHeld ?_
  rotate_left
  focus (go_simp; (try with_reducible rfl); done)
  try simp only [Act.put, List.setIfInBounds_toArray, List.set_cons_zero, List.set_cons_succ]
  refine' take_ 9 rfl (by kernel_rfl) (by kernel_rfl) (by kernel_rfl) (fun _ _ _ h => h) (by rfl) (fun wS hSw => ?_) hHeld ?_
  rotate_left
  focus (go_simp; (try with_reducible rfl); done)
  try simp only [Act.put, List.setIfInBounds_toArray, List.set_cons_zero, List.set_cons_succ]
  refine' take_ 10 rfl (by kernel_rfl) (by kernel_rfl) (by kernel_rfl) (fun _ _ _ h => h) (by rfl) (fun wS hSw => ?_) hHeld ?_
  rotate_left
  focus (go_simp; (try with_reducible rfl); done)
  try simp only [Act.put, List.setIfInBounds_toArray, List.set_cons_zero, List.set_cons_succ]
  refine only_ 11 rfl (by kernel_rfl) (by rfl) (fun K hK => ?_)
  go_simp
  refine hK.out _ _ (trivial) (fun hHeld2 => ?_)
  clear hK K hHeld
  have hHeld := hHeld2
  clear hHeld2
  try simp only [Act.put, List.setIfInBounds_toArray, List.set_cons_zero, List.set_cons_succ]
  refine only_ 12 rfl (by kernel_rfl) (by rfl) (fun K hK => ?_)
  refine wp_store_row rfl 31 _ _ rfl Wf.heap.size 0 rfl [Value.slice la lm lc, Value.slice wa wm wc] rfl (by kernel_rfl) [Value.slice none 0 0, Value.slice none 0 0] [Value.slice la lm lc, Value.slice wa wm wc] 31 (alloc_at Wf _) (by simp) (two_one _ _ rfl rfl) rfl ?_
  have HSEEN : Hid ((((Wf.alloc (.cells [Value.slice none 0 0, Value.slice none 0 0].toArray 31)).drew).setRow Wf.heap.size [Value.slice la lm lc, Value.slice wa wm wc].toArray).heap[Wf.heap.size]? = some (.cells [Value.slice la lm lc, Value.slice wa wm wc].toArray 31 (0, 0)) ∧ Below Wf.heap.size Wf (((Wf.alloc (.cells [Value.slice none 0 0, Value.slice none 0 0].toArray 31)).drew).setRow Wf.heap.size [Value.slice la lm lc, Value.slice wa wm wc].toArray)) := ⟨setRow_heap _ _ [Value.slice none 0 0, Value.slice none 0 0].toArray _ 31 (0, 0) (alloc_at Wf _), setRow_below ((Below.refl _ _).alloc (Nat.le_refl _) _).drew (Nat.le_refl _) _⟩
  refine hK.out _ _ trivial (fun hHeld2 => ?_)
  clear hK K hHeld hHeld2
  try simp only [Act.put]
  refine wpAnyH_done (by kernel_rfl) ?_ _
  refine NoPanic.normal ?_
  change Exit.then _ _ _ _ (((Wf.alloc (.cells [Value.slice none 0 0, Value.slice none 0 0].toArray 31)).drew).setRow Wf.heap.size [Value.slice la lm lc, Value.slice wa wm wc].toArray)
  generalize ((Wf.alloc (.cells [Value.slice none 0 0, Value.slice none 0 0].toArray 31)).drew).setRow Wf.heap.size [Value.slice la lm lc, Value.slice wa wm wc].toArray = W3 at *
  have HX3 := Lib.hid (HBX.out.under HSEEN.out.2)
  have HR3 := Lib.hid HSEEN.out.1
  have HI3 : Hid (∀ W, Below w.heap.size w W → Ints W (.slice la lm lc) ls ∧ Ints W (.slice wa wm wc) ws) := fun W hW => ⟨HLS.out.under hW, HWS.out.under hW⟩
  clear HBX HSEEN m1 m2 m3 m4 m5
  go_upto_region 7 with (first | (refine wpList_load_at rfl 31 _ rfl Wf.heap.size 0 rfl _ _ (row_cells HR3.out) Try.underlying31 rfl (by kernel_rfl) ?_) | (refine wpList_load_at rfl 27 _ rfl W1.heap.size 0 rfl _ _ (row_cells HX3.out.rowE) Try.underlying27 rfl (by kernel_rfl) ?_) | (go_at_call 9; refine (eval_tree (.mk op1 at1 name1 field1 n1 ty1 ref1 args1) op1 at1 name1 field1 n1 ty1 ref1 A1 c1 args1 S1 (.slice la lm lc) (.slice wa wm wc) ls ws _ rfl HOK.out HX3.out.slE HX3.out.ltE (HI3.out _ HX3.out.below).1 (HI3.out _ HX3.out.below).2 rfl rfl).mono ?_; rintro e W4 ⟨⟨v, o, hv, rfl⟩, hb4⟩; have HV := Lib.hid hv; have HB4 := Lib.hid hb4; clear hv hb4))
  have HR4 : Hid (W4.heap[Wf.heap.size]? = some (.cells [Value.slice la lm lc, Value.slice wa wm wc].toArray 31 (0, 0))) := (HB4.out.block _ (Array.getElem?_eq_some_iff.1 HR3.out).1).trans HR3.out
  have HX4 := Lib.hid (HX3.out.under HB4.out)
  have HOK2 : Hid (okT (.mk op2 at2 name2 field2 n2 ty2 ref2 args2)) := HFX.out ▸ ok_fold _ HOK.out
  have HE2 : Hid (∀ (e : Ending), EvalAns (atV ls) (atV ws) (.mk op2 at2 name2 field2 n2 ty2 ref2 args2) e → e = .returned (.tuple #[.int .i32 v, .int .i64 o])) := fun e ⟨v2, o2, h1, h2⟩ => by
    rw [← HFX.out, eval_fold _ _ _ HOK.out, HV.out] at h1
    injection h1 with h3 h4
    rw [h2, h3, h4]
  go_upto_region 8 with (first | (refine wpList_load_at rfl 31 _ rfl Wf.heap.size 0 rfl _ _ (row_cells HR4.out) Try.underlying31 rfl (by kernel_rfl) ?_) | (refine wpList_load_at rfl 27 _ rfl W2.heap.size 0 rfl _ _ (row_cells HX4.out.rowF) Try.underlying27 rfl (by kernel_rfl) ?_) | (go_at_call 9; refine (eval_tree (.mk op2 at2 name2 field2 n2 ty2 ref2 args2) op2 at2 name2 field2 n2 ty2 ref2 A2 c2 args2 S2 (.slice la lm lc) (.slice wa wm wc) ls ws _ rfl HOK2.out HX4.out.slF HX4.out.ltF (HI3.out _ HX4.out.below).1 (HI3.out _ HX4.out.below).2 rfl rfl).mono ?_; rintro e W5 ⟨he5, hb5⟩; obtain rfl := HE2.out _ he5; have HB5 := Lib.hid hb5; clear he5 hb5))
  have HX5 := Lib.hid (HX4.out.under HB5.out)
  have HSF : Hid (sizeT (.mk op2 at2 name2 field2 n2 ty2 ref2 args2) ≤ sizeT (.mk op1 at1 name1 field1 n1 ty1 ref1 args1)) := by
    show sizeT (.mk op2 at2 name2 field2 n2 ty2 ref2 args2) ≤ sizeT (.mk op1 at1 name1 field1 n1 ty1 ref1 args1)
    rw [← HFX.out]
    exact size_fold _
  have HBF : Hid (bareT (.mk op2 at2 name2 field2 n2 ty2 ref2 args2) = true) := by
    show bareT (.mk op2 at2 name2 field2 n2 ty2 ref2 args2) = true
    rw [← HFX.out]
    exact bare_fold _ HOK.out
  obtain ⟨s1, hs1⟩ : ∃ s, sizeT (.mk op1 at1 name1 field1 n1 ty1 ref1 args1) = s := ⟨_, rfl⟩
  obtain ⟨s2, hs2⟩ : ∃ s, sizeT (.mk op2 at2 name2 field2 n2 ty2 ref2 args2) = s := ⟨_, rfl⟩
  have HS1' := Lib.hid hs1
  have HS2' := Lib.hid hs2
  have hz1 : s1 ≤ 120 := hs1 ▸ HSZ.out
  have hz2 : s2 ≤ s1 := hs1 ▸ hs2 ▸ HSF.out
  clear hs1 hs2
  have gz : ¬ (s1 : Int) < (s2 : Int) := by omega
  have gz2 : ¬ s1 < s2 := by omega
  have gz3 : s2 ≤ s1 := by omega
  refine wp_region_noPanic ?_
  refine wp_region_held_drew (S := (fun W' => CellsAt W' W1.heap.size 0 (exL op1 at1 name1 field1 n1 ty1 ref1 A1 args1.length c1) ∧ CellsAt W' W2.heap.size 0 (exL op2 at2 name2 field2 n2 ty2 ref2 A2 args2.length c2))) (by kernel_rfl) ⟨row_cells (HX5.out.under (Below.refl _ _).drew).rowE, row_cells (HX5.out.under (Below.refl _ _).drew).rowF⟩ (fun hHeld => ?_)
  refine' take_ 0 rfl (by kernel_rfl) (by kernel_rfl) (by kernel_rfl) (fun _ _ _ h => h) (by rfl) (fun wS hSw => ?_) hHeld ?_
  rotate_left
  focus (go_simp; (try with_reducible rfl); done)
  try simp only [Act.put, List.setIfInBounds_toArray, List.set_cons_zero, List.set_cons_succ]
  refine' take_ 1 rfl (by kernel_rfl) (by kernel_rfl) (by kernel_rfl) (fun _ _ _ h => h) (by rfl) (fun wS hSw => ?_) hHeld ?_
  rotate_left
  focus (go_simp; (try with_reducible rfl); done)
  try simp only [Act.put, List.setIfInBounds_toArray, List.set_cons_zero, List.set_cons_succ]
  refine' take_ 2 rfl (by kernel_rfl) (by kernel_rfl) (by kernel_rfl) (fun _ _ _ h => h) (by rfl) (fun wS hSw => ?_) hHeld ?_
  rotate_left
  focus (go_simp; (try with_reducible rfl); done)
  try simp only [Act.put, List.setIfInBounds_toArray, List.set_cons_zero, List.set_cons_succ]
  refine' take_ 3 rfl (by kernel_rfl) (by kernel_rfl) (by kernel_rfl) (fun _ _ _ h => h) (by rfl) (fun wS hSw => ?_) hHeld ?_
  rotate_left
  focus (go_simp; (try with_reducible rfl); done)
  try simp only [Act.put, List.setIfInBounds_toArray, List.set_cons_zero, List.set_cons_succ]
  refine' take_ 4 rfl (by kernel_rfl) (by kernel_rfl) (by kernel_rfl) (fun _ _ _ h => h) (by rfl) (fun wS hSw => ?_) hHeld ?_
  rotate_left
  focus (go_simp; (try with_reducible rfl); done)
  try simp only [Act.put, List.setIfInBounds_toArray, List.set_cons_zero, List.set_cons_succ]
  refine' take_ 5 rfl (by kernel_rfl) (by kernel_rfl) (by kernel_rfl) (fun _ _ _ h => h) (by rfl) (fun wS hSw => ?_) hHeld ?_
  rotate_left
  focus (go_simp; (try with_reducible rfl); done)
  try simp only [Act.put, List.setIfInBounds_toArray, List.set_cons_zero, List.set_cons_succ]
  refine' take_ 6 rfl (by kernel_rfl) (by kernel_rfl) (by kernel_rfl) (fun _ _ _ h => h) (by rfl) (fun wS hSw => ?_) hHeld ?_
  rotate_left
  focus (go_simp; (try with_reducible rfl); done)
  try simp only [Act.put, List.setIfInBounds_toArray, List.set_cons_zero, List.set_cons_succ]
  refine' take_ 7 rfl (by kernel_rfl) (by kernel_rfl) (by kernel_rfl) (fun _ _ _ h => h) (by rfl) (fun wS hSw => ?_) hHeld ?_
  rotate_left
  focus (go_simp; (try with_reducible rfl); done)
  try simp only [Act.put, List.setIfInBounds_toArray, List.set_cons_zero, List.set_cons_succ]
  refine' take_ 8 rfl (by kernel_rfl) (by kernel_rfl) (by kernel_rfl) (fun _ _ _ h => h) (by rfl) (fun wS hSw => ?_) hHeld ?_
  rotate_left
  focus (go_simp; (try with_reducible rfl); done)
  try simp only [Act.put, List.setIfInBounds_toArray, List.set_cons_zero, List.set_cons_succ]
  refine' take_ 9 rfl (by kernel_rfl) (by kernel_rfl) (by kernel_rfl) (fun _ _ _ h => h) (by rfl) (fun wS hSw => run_load_at wS 27 _ W2.heap.size 0 rfl _ _ hSw.2 Try.underlying27 rfl (by kernel_rfl) _ _ _ _ _) hHeld ?_
  try simp only [Act.put, List.setIfInBounds_toArray, List.set_cons_zero, List.set_cons_succ]
  refine' take_ 11 rfl (by kernel_rfl) (by kernel_rfl) (by kernel_rfl) (fun _ _ _ h => h) (by rfl) (fun wS hSw => run_load_at wS 27 _ W1.heap.size 0 rfl _ _ hSw.1 Try.underlying27 rfl (by kernel_rfl) _ _ _ _ _) hHeld ?_
  try simp only [Act.put, List.setIfInBounds_toArray, List.set_cons_zero, List.set_cons_succ]
  refine only_ 10 rfl (by kernel_rfl) (by rfl) (fun K hK => ?_)
  go_simp
  have HX5d := Lib.hid (HX5.out.under (Below.refl _ _).drew)
  refine (size_tree (.mk op2 at2 name2 field2 n2 ty2 ref2 args2) op2 at2 name2 field2 n2 ty2 ref2 A2 c2 args2 S2 _ rfl HX5d.out.slF HX5d.out.ltF (by rw [HS2'.out]; omega)).mono ?_
  rintro e W6 ⟨rfl, hb6⟩
  rw [HS2'.out]
  have HX6 := Lib.hid (HX5d.out.under hb6)
  clear hb6
  go_simp
  refine hK.out _ _ (⟨row_cells HX6.out.rowE, row_cells HX6.out.rowF⟩) (fun hHeld2 => ?_)
  clear hK K hHeld
  have hHeld := hHeld2
  clear hHeld2
  try simp only [Act.put, List.setIfInBounds_toArray, List.set_cons_zero, List.set_cons_succ]
  refine only_ 12 rfl (by kernel_rfl) (by rfl) (fun K hK => ?_)
  go_simp
  refine (size_tree (.mk op1 at1 name1 field1 n1 ty1 ref1 args1) op1 at1 name1 field1 n1 ty1 ref1 A1 c1 args1 S1 _ rfl HX6.out.slE HX6.out.ltE (by rw [HS1'.out]; omega)).mono ?_
  rintro e W7 ⟨rfl, hb7⟩
  rw [HS1'.out]
  have HX7 := Lib.hid (HX6.out.under hb7)
  clear hb7
  go_simp
  refine hK.out _ _ (⟨row_cells HX7.out.rowE, row_cells HX7.out.rowF⟩) (fun hHeld2 => ?_)
  clear hK K hHeld
  have hHeld := hHeld2
  clear hHeld2
  try simp only [Act.put, List.setIfInBounds_toArray, List.set_cons_zero, List.set_cons_succ]
  refine' take_ 13 rfl (by kernel_rfl) (by kernel_rfl) (by kernel_rfl) (fun _ _ _ h => h) (by rfl) (fun wS hSw => ?_) hHeld ?_
  rotate_left
  focus (go_simp; (try with_reducible rfl); done)
  try simp only [Act.put, List.setIfInBounds_toArray, List.set_cons_zero, List.set_cons_succ]
  refine' take_ 14 rfl (by kernel_rfl) (by kernel_rfl) (by kernel_rfl) (fun _ _ _ h => h) (by rfl) (fun wS hSw => ?_) hHeld ?_
  rotate_left
  focus (go_simp; (try with_reducible rfl); done)
  try simp only [Act.put, List.setIfInBounds_toArray, List.set_cons_zero, List.set_cons_succ]
  refine' take_ 15 rfl (by kernel_rfl) (by kernel_rfl) (by kernel_rfl) (fun _ _ _ h => h) (by rfl) (fun wS hSw => ?_) hHeld ?_
  rotate_left
  focus (go_simp; (try with_reducible rfl); done)
  try simp only [Act.put, List.setIfInBounds_toArray, List.set_cons_zero, List.set_cons_succ]
  refine' take_ 16 rfl (by kernel_rfl) (by kernel_rfl) (by kernel_rfl) (fun _ _ _ h => h) (by rfl) (fun wS hSw => run_load_at wS 27 _ W2.heap.size 0 rfl _ _ hSw.2 Try.underlying27 rfl (by kernel_rfl) _ _ _ _ _) hHeld ?_
  try simp only [Act.put, List.setIfInBounds_toArray, List.set_cons_zero, List.set_cons_succ]
  refine only_ 17 rfl (by kernel_rfl) (by rfl) (fun K hK => ?_)
  go_simp
  refine (bare_tree (.mk op2 at2 name2 field2 n2 ty2 ref2 args2) op2 at2 name2 field2 n2 ty2 ref2 A2 c2 args2 S2 _ rfl HX7.out.slF HX7.out.ltF HBF.out).mono ?_
  rintro e W8 ⟨rfl, hb8⟩
  have HX8 := Lib.hid (HX7.out.under hb8)
  clear hb8
  go_simp
  refine hK.out _ _ (⟨row_cells HX8.out.rowE, row_cells HX8.out.rowF⟩) (fun hHeld2 => ?_)
  clear hK K hHeld
  have hHeld := hHeld2
  clear hHeld2
  try simp only [Act.put, List.setIfInBounds_toArray, List.set_cons_zero, List.set_cons_succ]
  refine' take_ 18 rfl (by kernel_rfl) (by kernel_rfl) (by kernel_rfl) (fun _ _ _ h => h) (by rfl) (fun wS hSw => ?_) hHeld ?_
  rotate_left
  focus (go_simp; (try with_reducible rfl); done)
  try simp only [Act.put, List.setIfInBounds_toArray, List.set_cons_zero, List.set_cons_succ]
  refine' take_ 19 rfl (by kernel_rfl) (by kernel_rfl) (by kernel_rfl) (fun _ _ _ h => h) (by rfl) (fun wS hSw => ?_) hHeld ?_
  rotate_left
  focus (go_simp; (try with_reducible rfl); done)
  try simp only [Act.put, List.setIfInBounds_toArray, List.set_cons_zero, List.set_cons_succ]
  refine wpAnyH_done (by kernel_rfl) ?_ _
  refine NoPanic.normal ?_
  go_upto_region 10 with fail
  have HFF : Hid (foldT (.mk op2 at2 name2 field2 n2 ty2 ref2 args2) = .mk op2 at2 name2 field2 n2 ty2 ref2 args2) := by
    show foldT (.mk op2 at2 name2 field2 n2 ty2 ref2 args2) = .mk op2 at2 name2 field2 n2 ty2 ref2 args2
    rw [← HFX.out]
    exact fold_fold _
  have HX8d := Lib.hid (HX8.out.under (Below.refl _ _).drew)
  refine wp_region_noPanic ?_
  refine wp_region_held_drew (S := (fun W' => CellsAt W' W2.heap.size 0 (exL op2 at2 name2 field2 n2 ty2 ref2 A2 args2.length c2))) (by kernel_rfl) (row_cells HX8d.out.rowF) (fun hHeld => ?_)
  refine' take_ 0 rfl (by kernel_rfl) (by kernel_rfl) (by kernel_rfl) (fun _ _ _ h => h) (by rfl) (fun wS hSw => run_load_at wS 27 _ W2.heap.size 0 rfl _ _ hSw Try.underlying27 rfl (by kernel_rfl) _ _ _ _ _) hHeld ?_
  try simp only [Act.put, List.setIfInBounds_toArray, List.set_cons_zero, List.set_cons_succ]
  refine' take_ 3 rfl (by kernel_rfl) (by kernel_rfl) (by kernel_rfl) (fun _ _ _ h => h) (by rfl) (fun wS hSw => run_load_at wS 27 _ W2.heap.size 0 rfl _ _ hSw Try.underlying27 rfl (by kernel_rfl) _ _ _ _ _) hHeld ?_
  try simp only [Act.put, List.setIfInBounds_toArray, List.set_cons_zero, List.set_cons_succ]
  refine both_ 1 4 rfl rfl (by kernel_rfl) (by rfl) (by rfl) (fun K hK => ?_) (fun K hK => ?_)
  · go_simp
    refine (fold_again op2 at2 name2 field2 n2 ty2 ref2 A2 c2 args2 S2 _ HFF.out HX8d.out.slF HX8d.out.ltF).mono ?_
    rintro e X ⟨A3, c3, S3, rfl, hsl3, hlt3, hbx⟩
    have HSL3 := Lib.hid hsl3
    have HLT3 := Lib.hid hlt3
    have HXX : Hid (Below W8.drew.heap.size W8.drew X) := hbx
    clear hsl3 hlt3
    go_simp
    have HX9 := Lib.hid (HX8d.out.under HXX.out)
    clear hbx
    refine hK.out _ _ (row_cells HX9.out.rowF) (fun hHeld2 => ?_)
    clear hK K hHeld
    have hHeld := hHeld2
    clear hHeld2
    try simp only [Act.put, List.setIfInBounds_toArray, List.set_cons_zero, List.set_cons_succ]
    refine both_ 2 4 rfl rfl (by kernel_rfl) (by rfl) (by rfl) (fun K hK => ?_) (fun K hK => ?_)
    · go_simp
      refine hK.out _ _ (row_cells (HX9.out.under ((Below.refl _ _).alloc (Nat.le_refl _) _)).rowF) (fun hHeld2 => ?_)
      clear hK K hHeld
      have hHeld := hHeld2
      clear hHeld2
      try simp only [Act.put, List.setIfInBounds_toArray, List.set_cons_zero, List.set_cons_succ]
      refine only_ 4 rfl (by kernel_rfl) (by rfl) (fun K hK => ?_)
      go_simp
      refine hK.out _ _ (row_cells (HX9.out.under (two_below _ _ _)).rowF) (fun hHeld2 => ?_)
      clear hK K hHeld
      have hHeld := hHeld2
      clear hHeld2
      try simp only [Act.put, List.setIfInBounds_toArray, List.set_cons_zero, List.set_cons_succ]
      refine only_ 5 rfl (by kernel_rfl) (by rfl) (fun K hK => ?_)
      go_simp
      have HZ : Hid (Below X.heap.size X ((X.alloc (.cells (exL op2 at2 name2 field2 n2 ty2 ref2 A3 args2.length c3).toArray 27)).alloc (.cells (exL op2 at2 name2 field2 n2 ty2 ref2 A2 args2.length c2).toArray 27))) := (two_below _ _ _)
      refine (same_fin op2 at2 name2 field2 n2 ty2 ref2 A3 A2 c3 c2 args2 S3 S2 X.heap.size (X.heap.size + 1) (((X.alloc (.cells (exL op2 at2 name2 field2 n2 ty2 ref2 A3 args2.length c3).toArray 27)).alloc (.cells (exL op2 at2 name2 field2 n2 ty2 ref2 A2 args2.length c2).toArray 27))) (two_at0 X _ _) (two_at X _ _) (HSL3.out.under HZ.out HLT3.out) (HX9.out.under HZ.out).slF (fun b hb => by have := HLT3.out b hb; have := HZ.out.size; omega) (HX9.out.under HZ.out).ltF).mono ?_
      rintro e W9 ⟨rfl, hb9⟩
      have HX10 := Lib.hid ((HX9.out.under HZ.out).under hb9)
      clear hb9
      go_simp
      refine hK.out _ _ (row_cells HX10.out.rowF) (fun hHeld2 => ?_)
      clear hK K hHeld
      have hHeld := hHeld2
      clear hHeld2
      try simp only [Act.put, List.setIfInBounds_toArray, List.set_cons_zero, List.set_cons_succ]
      refine only_ 6 rfl (by kernel_rfl) (by rfl) (fun K hK => ?_)
      go_simp
      refine hK.out _ _ (by first | exact row_cells HX10.out.rowF | exact row_cells (HX10.out.under (Below.refl _ _).drew).rowF) (fun hHeld2 => ?_)
      clear hK K hHeld hHeld2
      try simp only [Act.put, List.setIfInBounds_toArray, List.set_cons_zero, List.set_cons_succ]
      refine wpAnyH_done (by kernel_rfl) ?_ _
      refine NoPanic.normal ?_
      go_wp2
      go_ret
      exact ⟨rfl, HX10.out.below⟩
    · go_simp
      refine hK.out _ _ (row_cells (HX9.out.under ((Below.refl _ _).alloc (Nat.le_refl _) _)).rowF) (fun hHeld2 => ?_)
      clear hK K hHeld
      have hHeld := hHeld2
      clear hHeld2
      try simp only [Act.put, List.setIfInBounds_toArray, List.set_cons_zero, List.set_cons_succ]
      refine only_ 2 rfl (by kernel_rfl) (by rfl) (fun K hK => ?_)
      go_simp
      refine hK.out _ _ (row_cells (HX9.out.under (two_below _ _ _)).rowF) (fun hHeld2 => ?_)
      clear hK K hHeld
      have hHeld := hHeld2
      clear hHeld2
      try simp only [Act.put, List.setIfInBounds_toArray, List.set_cons_zero, List.set_cons_succ]
      refine only_ 5 rfl (by kernel_rfl) (by rfl) (fun K hK => ?_)
      go_simp
      have HZ : Hid (Below X.heap.size X ((X.alloc (.cells (exL op2 at2 name2 field2 n2 ty2 ref2 A2 args2.length c2).toArray 27)).alloc (.cells (exL op2 at2 name2 field2 n2 ty2 ref2 A3 args2.length c3).toArray 27))) := (two_below _ _ _)
      refine (same_fin op2 at2 name2 field2 n2 ty2 ref2 A3 A2 c3 c2 args2 S3 S2 (X.heap.size + 1) X.heap.size (((X.alloc (.cells (exL op2 at2 name2 field2 n2 ty2 ref2 A2 args2.length c2).toArray 27)).alloc (.cells (exL op2 at2 name2 field2 n2 ty2 ref2 A3 args2.length c3).toArray 27))) (two_at X _ _) (two_at0 X _ _) (HSL3.out.under HZ.out HLT3.out) (HX9.out.under HZ.out).slF (fun b hb => by have := HLT3.out b hb; have := HZ.out.size; omega) (HX9.out.under HZ.out).ltF).mono ?_
      rintro e W9 ⟨rfl, hb9⟩
      have HX10 := Lib.hid ((HX9.out.under HZ.out).under hb9)
      clear hb9
      go_simp
      refine hK.out _ _ (row_cells HX10.out.rowF) (fun hHeld2 => ?_)
      clear hK K hHeld
      have hHeld := hHeld2
      clear hHeld2
      try simp only [Act.put, List.setIfInBounds_toArray, List.set_cons_zero, List.set_cons_succ]
      refine only_ 6 rfl (by kernel_rfl) (by rfl) (fun K hK => ?_)
      go_simp
      refine hK.out _ _ (by first | exact row_cells HX10.out.rowF | exact row_cells (HX10.out.under (Below.refl _ _).drew).rowF) (fun hHeld2 => ?_)
      clear hK K hHeld hHeld2
      try simp only [Act.put, List.setIfInBounds_toArray, List.set_cons_zero, List.set_cons_succ]
      refine wpAnyH_done (by kernel_rfl) ?_ _
      refine NoPanic.normal ?_
      go_wp2
      go_ret
      exact ⟨rfl, HX10.out.below⟩
  · go_simp
    refine hK.out _ _ (row_cells (HX8.out.under ((Below.refl _ _).alloc (Nat.le_refl _) _).drew).rowF) (fun hHeld2 => ?_)
    clear hK K hHeld
    have hHeld := hHeld2
    clear hHeld2
    try simp only [Act.put, List.setIfInBounds_toArray, List.set_cons_zero, List.set_cons_succ]
    refine only_ 1 rfl (by kernel_rfl) (by rfl) (fun K hK => ?_)
    go_simp
    have HX8q := Lib.hid (HX8.out.under (W' := (W8.alloc (.cells (exL op2 at2 name2 field2 n2 ty2 ref2 A2 args2.length c2).toArray 27)).drew) ((Below.refl _ _).alloc (Nat.le_refl _) _).drew)
    refine (fold_again op2 at2 name2 field2 n2 ty2 ref2 A2 c2 args2 S2 _ HFF.out HX8q.out.slF HX8q.out.ltF).mono ?_
    rintro e X ⟨A3, c3, S3, rfl, hsl3, hlt3, hbx⟩
    have HSL3 := Lib.hid hsl3
    have HLT3 := Lib.hid hlt3
    have HXX : Hid (Below (W8.alloc (.cells (exL op2 at2 name2 field2 n2 ty2 ref2 A2 args2.length c2).toArray 27)).drew.heap.size (W8.alloc (.cells (exL op2 at2 name2 field2 n2 ty2 ref2 A2 args2.length c2).toArray 27)).drew X) := hbx
    clear hsl3 hlt3
    go_simp
    have HX9 := Lib.hid (HX8q.out.under HXX.out)
    have HQ : Hid (X.heap[W8.heap.size]? = some (.cells (exL op2 at2 name2 field2 n2 ty2 ref2 A2 args2.length c2).toArray 27 (0, 0))) := (HXX.out.block _ (by simp)).trans (alloc_at W8 _)
    clear hbx
    refine hK.out _ _ (row_cells HX9.out.rowF) (fun hHeld2 => ?_)
    clear hK K hHeld
    have hHeld := hHeld2
    clear hHeld2
    try simp only [Act.put, List.setIfInBounds_toArray, List.set_cons_zero, List.set_cons_succ]
    refine only_ 2 rfl (by kernel_rfl) (by rfl) (fun K hK => ?_)
    go_simp
    refine hK.out _ _ (row_cells (HX9.out.under ((Below.refl _ _).alloc (Nat.le_refl _) _)).rowF) (fun hHeld2 => ?_)
    clear hK K hHeld
    have hHeld := hHeld2
    clear hHeld2
    try simp only [Act.put, List.setIfInBounds_toArray, List.set_cons_zero, List.set_cons_succ]
    refine only_ 5 rfl (by kernel_rfl) (by rfl) (fun K hK => ?_)
    go_simp
    have HZ : Hid (Below X.heap.size X (X.alloc (.cells (exL op2 at2 name2 field2 n2 ty2 ref2 A3 args2.length c3).toArray 27))) := ((Below.refl _ _).alloc (Nat.le_refl _) _)
    refine (same_fin op2 at2 name2 field2 n2 ty2 ref2 A3 A2 c3 c2 args2 S3 S2 X.heap.size W8.heap.size ((X.alloc (.cells (exL op2 at2 name2 field2 n2 ty2 ref2 A3 args2.length c3).toArray 27))) (alloc_at X _) ((((Below.refl X.heap.size X).alloc (Nat.le_refl _) (.cells (exL op2 at2 name2 field2 n2 ty2 ref2 A3 args2.length c3).toArray 27)).block _ (Array.getElem?_eq_some_iff.1 HQ.out).1).trans HQ.out) (HSL3.out.under HZ.out HLT3.out) (HX9.out.under HZ.out).slF (fun b hb => by have := HLT3.out b hb; have := HZ.out.size; omega) (HX9.out.under HZ.out).ltF).mono ?_
    rintro e W9 ⟨rfl, hb9⟩
    have HX10 := Lib.hid ((HX9.out.under HZ.out).under hb9)
    clear hb9
    go_simp
    refine hK.out _ _ (row_cells HX10.out.rowF) (fun hHeld2 => ?_)
    clear hK K hHeld
    have hHeld := hHeld2
    clear hHeld2
    try simp only [Act.put, List.setIfInBounds_toArray, List.set_cons_zero, List.set_cons_succ]
    refine only_ 6 rfl (by kernel_rfl) (by rfl) (fun K hK => ?_)
    go_simp
    refine hK.out _ _ (by first | exact row_cells HX10.out.rowF | exact row_cells (HX10.out.under (Below.refl _ _).drew).rowF) (fun hHeld2 => ?_)
    clear hK K hHeld hHeld2
    try simp only [Act.put, List.setIfInBounds_toArray, List.set_cons_zero, List.set_cons_succ]
    refine wpAnyH_done (by kernel_rfl) ?_ _
    refine NoPanic.normal ?_
    go_wp2
    go_ret
    exact ⟨rfl, HX10.out.below⟩
end Go.Proofs.Ythmphmndpfkbcaa
