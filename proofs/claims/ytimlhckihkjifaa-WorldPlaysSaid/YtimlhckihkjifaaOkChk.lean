/-
  The program's Check, isScript by their contracts. Made by wip/genworldok.py.
-/
import Derived.Test.YtimlhckihkjifaaOkOrd
namespace Go.Proofs.Ytimlhckihkjifaa
open Go.RowKit
set_option linter.unusedVariables false
set_option linter.unusedSimpArgs false
theorem errI_alone {x : In} (h : alE x ≠ 0) (p : Option In) : errI p x = alE x := by
  unfold alE at h ⊢
  unfold errI
  split
  · rfl
  · rename_i h1
    rw [if_neg h1] at h
    split
    · rfl
    · rename_i h2
      rw [if_neg h2] at h
      exact absurd rfl h
theorem errI_none {x : In} (h : alE x = 0) : errI none x = 0 := by
  unfold alE at h
  unfold errI
  split
  · rename_i h1
    rw [if_pos h1] at h
    cases h
  · rename_i h1
    rw [if_neg h1] at h
    split
    · rename_i h2
      rw [if_pos h2] at h
      cases h
    · rfl
theorem errI_some {x : In} (h : alE x = 0) (y : In) : errI (some y) x = if aheadI y x = true then 0 else 28 := by
  unfold alE at h
  unfold errI
  split
  · rename_i h1
    rw [if_pos h1] at h
    cases h
  · rename_i h1
    rw [if_neg h1] at h
    split
    · rename_i h2
      rw [if_pos h2] at h
      cases h
    · rfl
theorem ord_neg (y x : In) : ordI y x < 0 ↔ aheadI y x = true := by
  unfold ordI aheadI cmpI
  simp only [Bool.or_eq_true, Bool.and_eq_true, decide_eq_true_eq]
  constructor
  · intro h
    split at h <;> (try split at h) <;> (try split at h) <;> (try split at h) <;> omega
  · intro h
    split <;> (try split) <;> (try split) <;> (try split) <;> omega
theorem ord_bounds (y x : In) : -1 ≤ ordI y x ∧ ordI y x ≤ 1 := by
  unfold ordI cmpI
  split <;> (try split) <;> (try split) <;> (try split) <;> omega
set_option maxHeartbeats 4000000 in
set_option maxRecDepth 100000 in
theorem check_any : CheckC 17 := by
  intro A cap B l w hr hB
  have HR := Lib.hid hr
  have HBW := Lib.hid hB
  have hlen := hr.len
  clear hr hB
  go_enter Try.func17, Try.ntmps17
  go_wp2_with fail
  go_loopw [9] (fun iv wr => ∃ k : Nat, k ≤ l.length ∧ iv = .int .i64 (k : Int) ∧ chkG (prevI l k) k (l.drop k) = chkL l ∧ Below w.heap.size w wr) (fun iv _ => l.length - (intOf iv).toNat)
  case atStart => exact ⟨0, by omega, rfl, rfl, Below.refl _ _⟩
  case round =>
    obtain ⟨k, hk, rfl, hg, hb⟩ := hrel
    have HG := Lib.hid hg
    have BB := Lib.hid hb
    obtain ⟨u, hu⟩ : ∃ W, wr = W := ⟨_, rfl⟩
    rw [hu] at BB ⊢
    clear hg hb hu
    by_cases hlt : k < l.length
    · obtain ⟨x, hx⟩ : ∃ x, l[k]? = some x := ⟨l[k], List.getElem?_eq_getElem hlt⟩
      obtain ⟨a, hA, hab, hok, hc, _⟩ := (HR.out.below BB.out HBW.out).get hx
      subst hA
      have d1 : (k : Int) < (l.length : Int) := by omega
      have HX := Lib.hid hx
      have HC := Lib.hid hc
      have HOK := Lib.hid hok
      have HLT := Lib.hid hlt
      have hab2 := Lib.hid hab
      have BU := Lib.hid (Nat.le_trans HBW.out BB.out.size)
      clear hx hc hok hlt hab
      go_upto_region 4 with (first
      | ((with_reducible show wpList _ _ _ (⟨none, .store 25 (.tmp 5) (.tmp 13), _, _, _, _⟩ :: _) _ _); refine wpList_store_v rfl 25 _ _ rfl u.heap.size (by exact rfl) (ic x) (by exact rfl) (by kernel_rfl) (ic_one x) 25 [.int .i64 0, .int .i64 0, .int .u8 0] (alloc_at _ _) rfl ?_; intro W1 HN HO HB; have RX : Hid (IRow W1 u.heap.size x) := HN; have BU1 : Hid (Below u.heap.size u W1) := Lib.hid (((Below.refl u.heap.size u).alloc (Nat.le_refl _) _).trans HB.out); clear HN HO HB)
      | ((with_reducible show wpList _ _ _ (⟨some 13, .load 25 (.tmp 12), _, _, _, _⟩ :: _) _ _); refine wpList_load_addr rfl 25 _ rfl (a.add (k * 3)) rfl _ _ HC.out Try.underlying25 rfl (by kernel_rfl) ?_))
      have KL := Lib.hid (show Calls Try.prog 28 #[.agg (ic x).toArray] W1 _ from alone_any x W1 HOK.out)
      go_upto_region 5 with (first
      | (go_at_call 28; with_reducible refine (KL.out).mono ?_; rintro e W2 ⟨rfl, hB⟩; have RX2 : Hid (IRow W2 u.heap.size x) := Lib.hid (IRow.below RX.out hB RX.out.lt); have BU2 := Lib.hid (BU1.out.trans (hB.mono BU1.out.size)); clear hB RX BU1)
      | ((with_reducible show wpList _ _ _ (⟨some 14, .load 25 (.tmp 5), _, _, _, _⟩ :: _) _ _); refine wpList_load_v (by rfl) 25 _ rfl u.heap.size (by exact rfl) _ Try.underlying25 25 (ic x) RX.out (by kernel_rfl) ?_))
      clear KL
      by_cases he : alE x = 0
      · have HE0 := Lib.hid he
        have heI : ((alE x : Nat) : Int) = 0 := by omega
        rw [heI]
        have hne : ((0 : Int) != 0) = false := rfl
        clear he heI
        rcases Nat.eq_zero_or_pos k with h0 | hpos
        · have HE := Lib.hid (chk_on HX.out HG.out (by rw [h0]; exact errI_none HE0.out))
          have H00 := Lib.hid h0
          clear h0
          go_upto_region 7 with fail
          obtain rfl := H00.out
          refine wp_region_noPanic ?_
          refine wp_region_held_drew (S := fun X => Below W2.heap.size W2 X) (by kernel_rfl) ((Below.refl _ W2).drew) (fun hHeld => ?_)
          refine' take_ 0 rfl (by kernel_rfl) (by kernel_rfl) (by kernel_rfl) (fun _ _ _ h => h) (by rfl) (fun wS hSw => ?_) hHeld ?_
          rotate_left
          focus (go_simp; (try with_reducible rfl); done)
          try simp only [Act.put, List.setIfInBounds_toArray, List.set_cons_zero, List.set_cons_succ]
          refine' take_ 1 rfl (by kernel_rfl) (by kernel_rfl) (by kernel_rfl) (fun _ _ _ h => h) (by rfl) (fun wS hSw => ?_) hHeld ?_
          rotate_left
          focus (go_simp; (try with_reducible rfl); done)
          try simp only [Act.put, List.setIfInBounds_toArray, List.set_cons_zero, List.set_cons_succ]
          refine' take_ 2 rfl (by kernel_rfl) (by kernel_rfl) (by kernel_rfl) (fun _ _ _ h => h) (by rfl) (fun wS hSw => ?_) hHeld ?_
          rotate_left
          focus (go_simp; (try with_reducible rfl); done)
          try simp only [Act.put, List.setIfInBounds_toArray, List.set_cons_zero, List.set_cons_succ]
          refine' pass_ 3 rfl (by kernel_rfl) (by kernel_rfl) (by kernel_rfl) (fun _ _ _ h => h) (by rfl) hHeld ?_
          try simp only [Act.put, List.setIfInBounds_toArray, List.set_cons_zero, List.set_cons_succ]
          refine' pass_ 4 rfl (by kernel_rfl) (by kernel_rfl) (by kernel_rfl) (fun _ _ _ h => h) (by rfl) hHeld ?_
          try simp only [Act.put, List.setIfInBounds_toArray, List.set_cons_zero, List.set_cons_succ]
          refine' pass_ 5 rfl (by kernel_rfl) (by kernel_rfl) (by kernel_rfl) (fun _ _ _ h => h) (by rfl) hHeld ?_
          try simp only [Act.put, List.setIfInBounds_toArray, List.set_cons_zero, List.set_cons_succ]
          refine' pass_ 6 rfl (by kernel_rfl) (by kernel_rfl) (by kernel_rfl) (fun _ _ _ h => h) (by rfl) hHeld ?_
          try simp only [Act.put, List.setIfInBounds_toArray, List.set_cons_zero, List.set_cons_succ]
          refine' pass_ 7 rfl (by kernel_rfl) (by kernel_rfl) (by kernel_rfl) (fun _ _ _ h => h) (by rfl) hHeld ?_
          try simp only [Act.put, List.setIfInBounds_toArray, List.set_cons_zero, List.set_cons_succ]
          refine' pass_ 8 rfl (by kernel_rfl) (by kernel_rfl) (by kernel_rfl) (fun _ _ _ h => h) (by rfl) hHeld ?_
          try simp only [Act.put, List.setIfInBounds_toArray, List.set_cons_zero, List.set_cons_succ]
          refine' pass_ 9 rfl (by kernel_rfl) (by kernel_rfl) (by kernel_rfl) (fun _ _ _ h => h) (by rfl) hHeld ?_
          try simp only [Act.put, List.setIfInBounds_toArray, List.set_cons_zero, List.set_cons_succ]
          refine' pass_ 10 rfl (by kernel_rfl) (by kernel_rfl) (by kernel_rfl) (fun _ _ _ h => h) (by rfl) hHeld ?_
          try simp only [Act.put, List.setIfInBounds_toArray, List.set_cons_zero, List.set_cons_succ]
          refine' take_ 11 rfl (by kernel_rfl) (by kernel_rfl) (by kernel_rfl) (fun _ _ _ h => h) (by rfl) (fun wS hSw => ?_) hHeld ?_
          rotate_left
          focus (go_simp; (try with_reducible rfl); done)
          try simp only [Act.put, List.setIfInBounds_toArray, List.set_cons_zero, List.set_cons_succ]
          refine wpAnyH_done (by kernel_rfl) ?_ _
          refine NoPanic.normal ?_
          have BB2 := Lib.hid (BB.out.trans ((BU2.out.trans (hHeld.mono BU2.out.size)).mono BB.out.size))
          go_wp2_with fail
          go_roundw
          case rel => exact ⟨0 + 1, by have := HLT.out; omega, by go_num, HE.out, BB2.out⟩
          case measure =>
            simp [intOf]
            have := HLT.out
            (try omega)
        obtain ⟨j, rfl⟩ : ∃ j, k = j + 1 := ⟨k - 1, by omega⟩
        have hjl : j < l.length := by have := HLT.out; omega
        obtain ⟨y, hy⟩ : ∃ y, l[j]? = some y := ⟨l[j], List.getElem?_eq_getElem hjl⟩
        obtain ⟨a', hA', _, hok', hc', _⟩ := (HR.out.below BB.out HBW.out).get hy
        obtain rfl : a = a' := by simpa using hA'
        have hkk : ((j + 1 : Nat) : Int) - 1 = (j : Int) := by omega
        have hwj : IntKind.i64.wrap (j : Int) = (j : Int) := by rw [IntKind.wrap_i64]; omega
        have hj1 : 0 ≤ (j : Int) + 1 := by omega
        have hjp : 0 < ((j + 1 : Nat) : Int) := by omega
        have hjd : (j : Int) < (l.length : Int) := by omega
        have HC2 := Lib.hid hc'
        have KA := Lib.hid (fun W => order_any y x W hok' HOK.out)
        have HPE : Hid (errI (prevI l (j + 1)) x = if aheadI y x = true then 0 else 28) := Lib.hid (by show errI l[j]? x = _; rw [hy]; exact errI_some HE0.out y)
        have HO2 := Lib.hid (ord_neg y x)
        clear hA' hok' hc' hy hpos hjl
        obtain ⟨z, hz⟩ : ∃ z, ordI y x = z := ⟨_, rfl⟩
        rw [hz] at KA HO2
        clear hz
        go_upto_region 7 with fail
        refine wp_region_noPanic ?_
        refine wp_region_held_drew (S := fun X => Below W2.heap.size W2 X) (by kernel_rfl) ((Below.refl _ W2).drew) (fun hHeld => ?_)
        refine' take_ 0 rfl (by kernel_rfl) (by kernel_rfl) (by kernel_rfl) (fun _ _ _ h => h) (by rfl) (fun wS hSw => ?_) hHeld ?_
        rotate_left
        focus (go_simp; (try with_reducible rfl); done)
        try simp only [Act.put, List.setIfInBounds_toArray, List.set_cons_zero, List.set_cons_succ]
        refine' take_ 1 rfl (by kernel_rfl) (by kernel_rfl) (by kernel_rfl) (fun _ _ _ h => h) (by rfl) (fun wS hSw => ?_) hHeld ?_
        rotate_left
        focus (go_simp; (try with_reducible rfl); done)
        try simp only [Act.put, List.setIfInBounds_toArray, List.set_cons_zero, List.set_cons_succ]
        refine' take_ 2 rfl (by kernel_rfl) (by kernel_rfl) (by kernel_rfl) (fun _ _ _ h => h) (by rfl) (fun wS hSw => ?_) hHeld ?_
        rotate_left
        focus (go_simp; (try with_reducible rfl); done)
        try simp only [Act.put, List.setIfInBounds_toArray, List.set_cons_zero, List.set_cons_succ]
        refine' take_ 3 rfl (by kernel_rfl) (by kernel_rfl) (by kernel_rfl) (fun _ _ _ h => h) (by rfl) (fun wS hSw => ?_) hHeld ?_
        rotate_left
        focus (go_simp; (try with_reducible rfl); done)
        try simp only [Act.put, List.setIfInBounds_toArray, List.set_cons_zero, List.set_cons_succ]
        refine' take_ 4 rfl (by kernel_rfl) (by kernel_rfl) (by kernel_rfl) (fun _ _ _ h => h) (by rfl) (fun wS hSw => ?_) hHeld ?_
        rotate_left
        focus (go_simp; (try with_reducible rfl); done)
        try simp only [Act.put, List.setIfInBounds_toArray, List.set_cons_zero, List.set_cons_succ]
        refine' take_ 5 rfl (by kernel_rfl) (by kernel_rfl) (by kernel_rfl) (fun _ _ _ h => h) (by rfl) (fun wS hSw => ?_) hHeld ?_
        rotate_left
        focus (go_simp; (try with_reducible rfl); done)
        try simp only [Act.put, List.setIfInBounds_toArray, List.set_cons_zero, List.set_cons_succ]
        refine' take_ 6 rfl (by kernel_rfl) (by kernel_rfl) (by kernel_rfl) (fun _ _ _ h => h) (by rfl) (fun wS hSw => ?_) hHeld ?_
        rotate_left
        focus (go_simp; (try with_reducible rfl); done)
        try simp only [Act.put, List.setIfInBounds_toArray, List.set_cons_zero, List.set_cons_succ]
        refine' take_ 7 rfl (by kernel_rfl) (by kernel_rfl) (by kernel_rfl) (fun _ _ _ h => h) (by rfl) (fun wS hSw => run_load_ad wS 25 _ _ rfl _ _ ((HC2.out.below BU2.out (by rw [add_block]; exact Nat.lt_of_lt_of_le hab2.out BU.out)).below hSw (by rw [add_block]; exact Nat.lt_of_lt_of_le hab2.out (Nat.le_trans BU.out BU2.out.size))) Try.underlying25 rfl (by kernel_rfl) _ _ _ _ _) hHeld ?_
        try simp only [Act.put, List.setIfInBounds_toArray, List.set_cons_zero, List.set_cons_succ]
        refine' take_ 8 rfl (by kernel_rfl) (by kernel_rfl) (by kernel_rfl) (fun _ _ _ h => h) (by rfl) (fun wS hSw => run_load_v wS 25 _ u.heap.size rfl _ Try.underlying25 25 (ic x) (IRow.below RX2.out hSw RX2.out.lt) (by kernel_rfl) _ _ _ _ _) hHeld ?_
        try simp only [Act.put, List.setIfInBounds_toArray, List.set_cons_zero, List.set_cons_succ]
        refine only_ 9 rfl (by kernel_rfl) (by rfl) (fun K hK => ?_)
        obtain ⟨Y, hY⟩ : ∃ Y, W2.drew = Y := ⟨_, rfl⟩
        rw [hY] at hHeld ⊢
        clear hY
        refine wp_call_ret 30 _ _ rfl _ (by rfl) (by kernel_rfl) _ (KA.out _) (fun Y2 hB => ?_)
        have hH2 := hHeld.trans (hB.mono hHeld.size)
        refine hK.out _ _ hH2 (fun _ => ?_)
        clear hK K hB hHeld
        have hHeld := hH2
        clear hH2
        show wpAnyH _ _ _ _ _ _ _ (Act.put _ (some 29) _) _
        try simp only [Act.put, List.setIfInBounds_toArray, List.set_cons_zero, List.set_cons_succ]
        refine' take_ 10 rfl (by kernel_rfl) (by kernel_rfl) (by kernel_rfl) (fun _ _ _ h => h) (by rfl) (fun wS hSw => ?_) hHeld ?_
        rotate_left
        focus (go_simp; (try with_reducible rfl); done)
        try simp only [Act.put, List.setIfInBounds_toArray, List.set_cons_zero, List.set_cons_succ]
        refine' take_ 11 rfl (by kernel_rfl) (by kernel_rfl) (by kernel_rfl) (fun _ _ _ h => h) (by rfl) (fun wS hSw => ?_) hHeld ?_
        rotate_left
        focus (go_simp; (try with_reducible rfl); done)
        try simp only [Act.put, List.setIfInBounds_toArray, List.set_cons_zero, List.set_cons_succ]
        refine wpAnyH_done (by kernel_rfl) ?_ _
        refine NoPanic.normal ?_
        by_cases hneg : z < 0
        · have HE := Lib.hid (chk_on HX.out HG.out (HPE.out.trans (if_pos (HO2.out.1 hneg))))
          have hnn : ¬ 0 ≤ z := by omega
          clear HO2
          have BB2 := Lib.hid (BB.out.trans ((BU2.out.trans (hHeld.mono BU2.out.size)).mono BB.out.size))
          go_wp2_with fail
          go_roundw
          case rel => exact ⟨j + 1 + 1, by have := HLT.out; omega, by go_num, HE.out, BB2.out⟩
          case measure =>
            simp [intOf]
            have := HLT.out
            (try omega)
        · have HE := Lib.hid (chk_bad HX.out HG.out 28 (HPE.out.trans (if_neg (fun h => hneg (HO2.out.2 h)))) (by decide))
          have hnn : 0 ≤ z := by omega
          clear HO2
          have BB2 := Lib.hid (BB.out.trans ((BU2.out.trans (hHeld.mono BU2.out.size)).mono BB.out.size))
          go_wp2_with fail
          exact bodyPost_ret (v := .tuple #[.int .i64 ((j + 1 : Nat) : Int), .int .i64 28]) (results_tt Try.results17 _ _ _ _ _ rfl rfl) rfl ⟨by rw [HE.out]; rfl, BB2.out⟩
      · have HE := Lib.hid (chk_bad HX.out HG.out (alE x) (errI_alone he _) he)
        obtain ⟨e0, he0⟩ : ∃ e, alE x = e := ⟨_, rfl⟩
        rw [he0] at HE he ⊢
        clear he0
        have hne : ((e0 : Int) != 0) = true := by simp; omega
        have hne2 : ¬ (e0 : Int) = 0 := by omega
        have BB2 := Lib.hid (BB.out.trans (BU2.out.mono BB.out.size))
        go_wp2_with fail
        exact bodyPost_ret (v := .tuple #[.int .i64 (k : Int), .int .i64 (e0 : Int)]) (results_tt Try.results17 _ _ _ _ _ rfl rfl) rfl ⟨by rw [HE.out], BB2.out⟩
    · obtain rfl : k = l.length := by omega
      have HE : Hid (chkL l = (-1, 0)) := Lib.hid (by rw [← HG.out, List.drop_length]; rfl)
      have d1 : ¬ (l.length : Int) < (l.length : Int) := by omega
      clear hlt hk
      go_wp2_with fail
      exact bodyPost_ret (v := .tuple #[.int .i64 (-1), .int .i64 0]) (results_tt Try.results17 _ _ _ _ _ rfl rfl) rfl ⟨by rw [HE.out]; rfl, BB.out⟩
set_option maxRecDepth 100000 in
theorem isScript_any (A : Option Addr) (cap B : Nat) (l : List In) (w : World) (hr : Rd w B A l) (hB : B ≤ w.heap.size) : Calls Try.prog 25 #[.slice A l.length cap] w fun e w' => e = .returned (.bool (decide ((chkL l).2 = 0))) ∧ Below w.heap.size w w' := by
  have KC := Lib.hid (check_any A cap B l w hr hB)
  obtain ⟨ci, ce, hce⟩ : ∃ i e, chkL l = (i, e) := ⟨_, _, rfl⟩
  rw [hce] at KC ⊢
  clear hce hr
  go_enter Try.func25, Try.ntmps25
  go_wp2_with (go_at_call 17; with_reducible refine (KC.out).mono ?_; rintro e W1 ⟨rfl, hB⟩; have B1 := Lib.hid hB; clear hB)
  go_ret
  refine ⟨?_, B1.out⟩
  by_cases h : ce = 0
  · subst h; rfl
  · have h2 : ¬ ((ce : Nat) : Int) = 0 := by omega
    simp [h, h2]
end Go.Proofs.Ytimlhckihkjifaa
