/-
  The document's Check by its contract. Made by wip/genworldref.py.
-/
import Derived.Test.YtimlhckihkjifaaRa
namespace Go.Proofs.Ytimlhckihkjifaa
open Go.RowKit
set_option linter.unusedVariables false
set_option linter.unusedSimpArgs false
def CheckC (f : Nat) : Prop := ∀ (A : Option Addr) (cap B : Nat) (l : List In) (W : World), Rd W B A l → B ≤ W.heap.size → Calls Try.prog f #[.slice A l.length cap] W fun e w' => e = .returned (.tuple #[.int .i64 (chkL l).1, .int .i64 ((chkL l).2 : Nat)]) ∧ Below W.heap.size W w'
theorem chk_bad {l : List In} {k : Nat} {x : In} (hx : l[k]? = some x) (hg : chkG (prevI l k) k (l.drop k) = chkL l) (e : Nat) (he : errI (prevI l k) x = e) (h0 : e ≠ 0) : chkL l = ((k : Int), e) := by
  rw [← hg, drop_at l k x hx, chkG, if_neg (by rw [he]; exact h0), he]
theorem chk_on {l : List In} {k : Nat} {x : In} (hx : l[k]? = some x) (hg : chkG (prevI l k) k (l.drop k) = chkL l) (he : errI (prevI l k) x = 0) : chkG (prevI l (k + 1)) (k + 1) (l.drop (k + 1)) = chkL l := by
  rw [← hg, drop_at l k x hx, chkG, if_pos he]
  show chkG (l[k]?) _ _ = _
  rw [hx]
set_option maxHeartbeats 4000000 in
set_option maxRecDepth 100000 in
theorem rCheck_any : CheckC 22 := by
  intro A cap B l w hr hB
  have HR := Lib.hid hr
  have HBW := Lib.hid hB
  have hlen := hr.len
  clear hr hB
  go_enter Try.func22, Try.ntmps22
  go_wp2_with fail
  go_loopw [4] (fun iv wr => ∃ k : Nat, k ≤ l.length ∧ iv = .int .i64 (k : Int) ∧ chkG (prevI l k) k (l.drop k) = chkL l ∧ Below w.heap.size w wr) (fun iv _ => l.length - (intOf iv).toNat)
  case atStart => exact ⟨0, by omega, rfl, rfl, Below.refl _ _⟩
  case round =>
    obtain ⟨k, hk, rfl, hg, hb⟩ := hrel
    have HG := Lib.hid hg
    have BB := Lib.hid hb
    obtain ⟨u, hu⟩ : ∃ W, wr = W := ⟨_, rfl⟩
    rw [hu] at BB ⊢
    clear hg hb hu
    by_cases hlt : k < l.length
    · obtain ⟨x, hx⟩ : ∃ x, l[k]? = some x := ⟨l[k], List.getElem?_eq_getElem hlt⟩
      obtain ⟨a, hA, hab, hok, hc, hc0, hc1, hc2⟩ := (HR.out.below BB.out HBW.out).get hx
      subst hA
      have d1 : (k : Int) < (l.length : Int) := by omega
      have HX := Lib.hid hx
      have HC := Lib.hid hc
      have HOK := Lib.hid hok
      have HLT := Lib.hid hlt
      have hab2 := Lib.hid hab
      have BU := Lib.hid (Nat.le_trans HBW.out BB.out.size)
      clear hx hc hok hlt hab
      by_cases h2 : x.a < 1 ∨ 1073741824 < x.a
      · have HE := Lib.hid (chk_bad HX.out HG.out 2 (if_pos h2) (by decide))
        rcases h2 with h2 | h2
        · go_wp2_with fail
          exact bodyPost_ret (v := .tuple #[.int .i64 (k : Int), .int .i64 2]) (results_tt Try.results22 _ _ _ _ _ rfl rfl) rfl ⟨by rw [HE.out]; rfl, BB.out⟩
        · have h2b : ¬ x.a < 1 := by omega
          go_wp2_with fail
          exact bodyPost_ret (v := .tuple #[.int .i64 (k : Int), .int .i64 2]) (results_tt Try.results22 _ _ _ _ _ rfl rfl) rfl ⟨by rw [HE.out]; rfl, BB.out⟩
      · have h2a : ¬ x.a < 1 := by omega
        have h2b : ¬ 1073741824 < x.a := by omega
        have h2c : x.a ≤ 1073741824 := by omega
        by_cases h6 : x.k < 0 ∨ 2 < x.k
        · have HE := Lib.hid (chk_bad HX.out HG.out 6 ((if_neg h2).trans (if_pos h6)) (by decide))
          clear h2
          rcases h6 with h6 | h6
          · go_wp2_with fail
            exact bodyPost_ret (v := .tuple #[.int .i64 (k : Int), .int .i64 6]) (results_tt Try.results22 _ _ _ _ _ rfl rfl) rfl ⟨by rw [HE.out]; rfl, BB.out⟩
          · have h6b : ¬ x.k < 0 := by omega
            go_wp2_with fail
            exact bodyPost_ret (v := .tuple #[.int .i64 (k : Int), .int .i64 6]) (results_tt Try.results22 _ _ _ _ _ rfl rfl) rfl ⟨by rw [HE.out]; rfl, BB.out⟩
        · have h6a : ¬ x.k < 0 := by omega
          have h6b : ¬ 2 < x.k := by omega
          have h6c : x.k ≤ 2 := by omega
          rcases Nat.eq_zero_or_pos k with h0 | hpos
          · have HE := Lib.hid (chk_on HX.out HG.out ((if_neg h2).trans ((if_neg h6).trans (by rw [h0]; rfl))))
            have H00 := Lib.hid h0
            clear h2 h6 h0
            go_upto_region 8 with fail
            clear hc0 hc1 hc2
            obtain rfl := H00.out
            refine wp_region_noPanic ?_
            refine wp_region_held_drew (S := fun X => Below u.heap.size u X) (by kernel_rfl) ((Below.refl _ u).drew) (fun hHeld => ?_)
            refine' take_ 0 rfl (by kernel_rfl) (by kernel_rfl) (by kernel_rfl) (fun _ _ _ h => h) (by rfl) (fun wS hSw => ?_) hHeld ?_
            rotate_left
            focus (go_simp; (try with_reducible rfl); done)
            try simp only [Act.put, List.setIfInBounds_toArray, List.set_cons_zero, List.set_cons_succ]
            refine' take_ 1 rfl (by kernel_rfl) (by kernel_rfl) (by kernel_rfl) (fun _ _ _ h => h) (by rfl) (fun wS hSw => ?_) hHeld ?_
            rotate_left
            focus (go_simp; (try with_reducible rfl); done)
            try simp only [Act.put, List.setIfInBounds_toArray, List.set_cons_zero, List.set_cons_succ]
            refine' take_ 2 rfl (by kernel_rfl) (by kernel_rfl) (by kernel_rfl) (fun _ _ _ h => h) (by rfl) (fun wS hSw => ?_) hHeld ?_
            rotate_left
            focus (go_simp; (try with_reducible rfl); done)
            try simp only [Act.put, List.setIfInBounds_toArray, List.set_cons_zero, List.set_cons_succ]
            refine' pass_ 3 rfl (by kernel_rfl) (by kernel_rfl) (by kernel_rfl) (fun _ _ _ h => h) (by rfl) hHeld ?_
            try simp only [Act.put, List.setIfInBounds_toArray, List.set_cons_zero, List.set_cons_succ]
            refine' pass_ 4 rfl (by kernel_rfl) (by kernel_rfl) (by kernel_rfl) (fun _ _ _ h => h) (by rfl) hHeld ?_
            try simp only [Act.put, List.setIfInBounds_toArray, List.set_cons_zero, List.set_cons_succ]
            refine' pass_ 5 rfl (by kernel_rfl) (by kernel_rfl) (by kernel_rfl) (fun _ _ _ h => h) (by rfl) hHeld ?_
            try simp only [Act.put, List.setIfInBounds_toArray, List.set_cons_zero, List.set_cons_succ]
            refine' pass_ 6 rfl (by kernel_rfl) (by kernel_rfl) (by kernel_rfl) (fun _ _ _ h => h) (by rfl) hHeld ?_
            try simp only [Act.put, List.setIfInBounds_toArray, List.set_cons_zero, List.set_cons_succ]
            refine' pass_ 7 rfl (by kernel_rfl) (by kernel_rfl) (by kernel_rfl) (fun _ _ _ h => h) (by rfl) hHeld ?_
            try simp only [Act.put, List.setIfInBounds_toArray, List.set_cons_zero, List.set_cons_succ]
            refine' pass_ 8 rfl (by kernel_rfl) (by kernel_rfl) (by kernel_rfl) (fun _ _ _ h => h) (by rfl) hHeld ?_
            try simp only [Act.put, List.setIfInBounds_toArray, List.set_cons_zero, List.set_cons_succ]
            refine' pass_ 9 rfl (by kernel_rfl) (by kernel_rfl) (by kernel_rfl) (fun _ _ _ h => h) (by rfl) hHeld ?_
            try simp only [Act.put, List.setIfInBounds_toArray, List.set_cons_zero, List.set_cons_succ]
            refine' pass_ 10 rfl (by kernel_rfl) (by kernel_rfl) (by kernel_rfl) (fun _ _ _ h => h) (by rfl) hHeld ?_
            try simp only [Act.put, List.setIfInBounds_toArray, List.set_cons_zero, List.set_cons_succ]
            refine' pass_ 11 rfl (by kernel_rfl) (by kernel_rfl) (by kernel_rfl) (fun _ _ _ h => h) (by rfl) hHeld ?_
            try simp only [Act.put, List.setIfInBounds_toArray, List.set_cons_zero, List.set_cons_succ]
            refine' pass_ 12 rfl (by kernel_rfl) (by kernel_rfl) (by kernel_rfl) (fun _ _ _ h => h) (by rfl) hHeld ?_
            try simp only [Act.put, List.setIfInBounds_toArray, List.set_cons_zero, List.set_cons_succ]
            refine' pass_ 13 rfl (by kernel_rfl) (by kernel_rfl) (by kernel_rfl) (fun _ _ _ h => h) (by rfl) hHeld ?_
            try simp only [Act.put, List.setIfInBounds_toArray, List.set_cons_zero, List.set_cons_succ]
            refine' take_ 14 rfl (by kernel_rfl) (by kernel_rfl) (by kernel_rfl) (fun _ _ _ h => h) (by rfl) (fun wS hSw => ?_) hHeld ?_
            rotate_left
            focus (go_simp; (try with_reducible rfl); done)
            try simp only [Act.put, List.setIfInBounds_toArray, List.set_cons_zero, List.set_cons_succ]
            refine wpAnyH_done (by kernel_rfl) ?_ _
            refine NoPanic.normal ?_
            have BB2 := Lib.hid (BB.out.trans (hHeld.mono BB.out.size))
            go_wp2_with fail
            go_roundw
            case rel => exact ⟨0 + 1, by have := HLT.out; omega, by go_num, HE.out, BB2.out⟩
            case measure =>
              simp [intOf]
              have := HLT.out
              (try omega)
          obtain ⟨j, rfl⟩ : ∃ j, k = j + 1 := ⟨k - 1, by omega⟩
          have hjl : j < l.length := by have := HLT.out; omega
          obtain ⟨y, hy⟩ : ∃ y, l[j]? = some y := ⟨l[j], List.getElem?_eq_getElem hjl⟩
          obtain ⟨a', hA', _, hok', hc', _⟩ := (HR.out.below BB.out HBW.out).get hy
          obtain rfl : a = a' := by simpa using hA'
          have hkk : ((j + 1 : Nat) : Int) - 1 = (j : Int) := by omega
          have hwj : IntKind.i64.wrap (j : Int) = (j : Int) := by rw [IntKind.wrap_i64]; omega
          have hj1 : 0 ≤ (j : Int) + 1 := by omega
          have hjp : 0 < ((j + 1 : Nat) : Int) := by omega
          have hjd : (j : Int) < (l.length : Int) := by omega
          have HC2 := Lib.hid hc'
          have KA := Lib.hid (fun W => rAhead_any y x W hok' HOK.out)
          have HPE : Hid (errI (prevI l (j + 1)) x = if aheadI y x = true then 0 else 28) := Lib.hid (by unfold errI; rw [if_neg h2, if_neg h6]; show (match l[j]? with | some z => (if aheadI z x = true then 0 else 28) | none => 0) = _; rw [hy])
          clear hA' hok' hc' hy h2 h6 hpos hjl
          obtain ⟨ah, hah⟩ : ∃ x', aheadI y x = x' := ⟨_, rfl⟩
          rw [hah] at KA HPE
          clear hah
          go_upto_region 8 with fail
          refine wp_region_noPanic ?_
          refine wp_region_held_drew (S := fun X => Below u.heap.size u X) (by kernel_rfl) ((Below.refl _ u).drew) (fun hHeld => ?_)
          refine' take_ 0 rfl (by kernel_rfl) (by kernel_rfl) (by kernel_rfl) (fun _ _ _ h => h) (by rfl) (fun wS hSw => ?_) hHeld ?_
          rotate_left
          focus (go_simp; (try with_reducible rfl); done)
          try simp only [Act.put, List.setIfInBounds_toArray, List.set_cons_zero, List.set_cons_succ]
          refine' take_ 1 rfl (by kernel_rfl) (by kernel_rfl) (by kernel_rfl) (fun _ _ _ h => h) (by rfl) (fun wS hSw => ?_) hHeld ?_
          rotate_left
          focus (go_simp; (try with_reducible rfl); done)
          try simp only [Act.put, List.setIfInBounds_toArray, List.set_cons_zero, List.set_cons_succ]
          refine' take_ 2 rfl (by kernel_rfl) (by kernel_rfl) (by kernel_rfl) (fun _ _ _ h => h) (by rfl) (fun wS hSw => ?_) hHeld ?_
          rotate_left
          focus (go_simp; (try with_reducible rfl); done)
          try simp only [Act.put, List.setIfInBounds_toArray, List.set_cons_zero, List.set_cons_succ]
          refine' take_ 3 rfl (by kernel_rfl) (by kernel_rfl) (by kernel_rfl) (fun _ _ _ h => h) (by rfl) (fun wS hSw => ?_) hHeld ?_
          rotate_left
          focus (go_simp; (try with_reducible rfl); done)
          try simp only [Act.put, List.setIfInBounds_toArray, List.set_cons_zero, List.set_cons_succ]
          refine' take_ 4 rfl (by kernel_rfl) (by kernel_rfl) (by kernel_rfl) (fun _ _ _ h => h) (by rfl) (fun wS hSw => ?_) hHeld ?_
          rotate_left
          focus (go_simp; (try with_reducible rfl); done)
          try simp only [Act.put, List.setIfInBounds_toArray, List.set_cons_zero, List.set_cons_succ]
          refine' take_ 5 rfl (by kernel_rfl) (by kernel_rfl) (by kernel_rfl) (fun _ _ _ h => h) (by rfl) (fun wS hSw => ?_) hHeld ?_
          rotate_left
          focus (go_simp; (try with_reducible rfl); done)
          try simp only [Act.put, List.setIfInBounds_toArray, List.set_cons_zero, List.set_cons_succ]
          refine' take_ 6 rfl (by kernel_rfl) (by kernel_rfl) (by kernel_rfl) (fun _ _ _ h => h) (by rfl) (fun wS hSw => ?_) hHeld ?_
          rotate_left
          focus (go_simp; (try with_reducible rfl); done)
          try simp only [Act.put, List.setIfInBounds_toArray, List.set_cons_zero, List.set_cons_succ]
          refine' take_ 7 rfl (by kernel_rfl) (by kernel_rfl) (by kernel_rfl) (fun _ _ _ h => h) (by rfl) (fun wS hSw => run_load_ad wS 25 _ _ rfl _ _ (HC2.out.below hSw (by rw [add_block]; exact Nat.lt_of_lt_of_le hab2.out BU.out)) Try.underlying25 rfl (by kernel_rfl) _ _ _ _ _) hHeld ?_
          try simp only [Act.put, List.setIfInBounds_toArray, List.set_cons_zero, List.set_cons_succ]
          refine' take_ 8 rfl (by kernel_rfl) (by kernel_rfl) (by kernel_rfl) (fun _ _ _ h => h) (by rfl) (fun wS hSw => ?_) hHeld ?_
          rotate_left
          focus (go_simp; (try with_reducible rfl); done)
          try simp only [Act.put, List.setIfInBounds_toArray, List.set_cons_zero, List.set_cons_succ]
          refine' take_ 9 rfl (by kernel_rfl) (by kernel_rfl) (by kernel_rfl) (fun _ _ _ h => h) (by rfl) (fun wS hSw => ?_) hHeld ?_
          rotate_left
          focus (go_simp; (try with_reducible rfl); done)
          try simp only [Act.put, List.setIfInBounds_toArray, List.set_cons_zero, List.set_cons_succ]
          refine' take_ 10 rfl (by kernel_rfl) (by kernel_rfl) (by kernel_rfl) (fun _ _ _ h => h) (by rfl) (fun wS hSw => ?_) hHeld ?_
          rotate_left
          focus (go_simp; (try with_reducible rfl); done)
          try simp only [Act.put, List.setIfInBounds_toArray, List.set_cons_zero, List.set_cons_succ]
          refine' take_ 11 rfl (by kernel_rfl) (by kernel_rfl) (by kernel_rfl) (fun _ _ _ h => h) (by rfl) (fun wS hSw => run_load_ad wS 25 _ _ rfl _ _ (HC.out.below hSw (by rw [add_block]; exact Nat.lt_of_lt_of_le hab2.out BU.out)) Try.underlying25 rfl (by kernel_rfl) _ _ _ _ _) hHeld ?_
          try simp only [Act.put, List.setIfInBounds_toArray, List.set_cons_zero, List.set_cons_succ]
          refine only_ 12 rfl (by kernel_rfl) (by rfl) (fun K hK => ?_)
          obtain ⟨Y, hY⟩ : ∃ Y, u.drew = Y := ⟨_, rfl⟩
          rw [hY] at hHeld ⊢
          clear hY
          refine wp_call_ret 21 _ _ rfl _ (by rfl) (by kernel_rfl) _ (KA.out _) (fun Y2 hB => ?_)
          have hH2 := hHeld.trans (hB.mono hHeld.size)
          refine hK.out _ _ hH2 (fun _ => ?_)
          clear hK K hB hHeld
          have hHeld := hH2
          clear hH2
          show wpAnyH _ _ _ _ _ _ _ (Act.put _ (some 53) _) _
          try simp only [Act.put, List.setIfInBounds_toArray, List.set_cons_zero, List.set_cons_succ]
          refine' take_ 13 rfl (by kernel_rfl) (by kernel_rfl) (by kernel_rfl) (fun _ _ _ h => h) (by rfl) (fun wS hSw => ?_) hHeld ?_
          rotate_left
          focus (go_simp; (try with_reducible rfl); done)
          try simp only [Act.put, List.setIfInBounds_toArray, List.set_cons_zero, List.set_cons_succ]
          refine' take_ 14 rfl (by kernel_rfl) (by kernel_rfl) (by kernel_rfl) (fun _ _ _ h => h) (by rfl) (fun wS hSw => ?_) hHeld ?_
          rotate_left
          focus (go_simp; (try with_reducible rfl); done)
          try simp only [Act.put, List.setIfInBounds_toArray, List.set_cons_zero, List.set_cons_succ]
          refine wpAnyH_done (by kernel_rfl) ?_ _
          refine NoPanic.normal ?_
          have BB2 := Lib.hid (BB.out.trans (hHeld.mono BB.out.size))
          cases ah
          · have HE := Lib.hid (chk_bad HX.out HG.out 28 (HPE.out.trans (by simp)) (by decide))
            go_wp2_with fail
            exact bodyPost_ret (v := .tuple #[.int .i64 ((j + 1 : Nat) : Int), .int .i64 28]) (results_tt Try.results22 _ _ _ _ _ rfl rfl) rfl ⟨by rw [HE.out]; rfl, BB2.out⟩
          · have HE := Lib.hid (chk_on HX.out HG.out (HPE.out.trans (by simp)))
            go_wp2_with fail
            go_roundw
            case rel => exact ⟨j + 1 + 1, by have := HLT.out; omega, by go_num, HE.out, BB2.out⟩
            case measure =>
              simp [intOf]
              have := HLT.out
              (try omega)
    · obtain rfl : k = l.length := by omega
      have HE : Hid (chkL l = (-1, 0)) := Lib.hid (by rw [← HG.out, List.drop_length]; rfl)
      have d1 : ¬ (l.length : Int) < (l.length : Int) := by omega
      clear hlt hk
      go_wp2_with fail
      exact bodyPost_ret (v := .tuple #[.int .i64 (-1), .int .i64 0]) (results_tt Try.results22 _ _ _ _ _ rfl rfl) rfl ⟨by rw [HE.out]; rfl, BB.out⟩
end Go.Proofs.Ytimlhckihkjifaa
