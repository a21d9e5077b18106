/-
  The document's Script by its contract: its walk. Made by wip/genworldref.py.
-/
import Derived.Test.YtimlhckihkjifaaRg
namespace Go.Proofs.Ytimlhckihkjifaa
open Go.RowKit
set_option linter.unusedVariables false
set_option linter.unusedSimpArgs false
set_option maxHeartbeats 8000000 in
set_option maxRecDepth 100000 in
theorem rScript_any (A : Option Addr) (cap B : Nat) (l : List Dr) (w : World) (hr : DIn w B A l) (hB : B ≤ w.heap.size) : Calls Try.prog 7 #[.slice A l.length cap] w fun e w' => (∃ v, e = .returned v ∧ OwnI w' w.heap.size v (scriptL l)) ∧ Below w.heap.size w w' := by
  have HR := Lib.hid hr
  have HBW := Lib.hid hB
  have hlen := hr.len
  clear hr hB
  obtain ⟨i0, hi0, hz0, hz1, hz2⟩ := info_parts ininfo
  have H9 := Lib.hid hz0
  have H10 := Lib.hid hz1
  have H11 := Lib.hid hz2
  have H12 := Lib.hid hi0
  clear hz0 hz1 hz2 hi0
  go_enter Try.func7, Try.ntmps7
  go_wp2_with fail
  go_loopw [3, 4, 5] (fun ov av iv wr => ∃ k : Nat, k ≤ l.length ∧ k ≤ 100 ∧ iv = .int .i64 (k : Int) ∧ av = .int .i64 (scrS l k).2 ∧ OwnI wr w.heap.size ov (scrS l k).1 ∧ Below w.heap.size w wr) (fun _ _ iv _ => 100 - (intOf iv).toNat)
  case atStart => exact ⟨0, by omega, by omega, rfl, rfl, OwnI.nil _ _, Below.refl _ _⟩
  case round =>
    obtain ⟨k, hk, hk2, rfl, rfl, q1, q2⟩ := hrel
    obtain ⟨u, hu⟩ : ∃ W, wr = W := ⟨_, rfl⟩
    rw [hu] at q1 q2 ⊢
    have OW_u := Lib.hid q1
    have BB_u := Lib.hid q2
    clear q2 hu
    obtain ⟨oA, ocap, rfl⟩ := q1.form
    clear q1
    by_cases hlt : k < l.length ∧ k < 100
    · obtain ⟨hlt1, hlt2⟩ := hlt
      obtain ⟨d, hd⟩ : ∃ x, l[k]? = some x := ⟨l[k], List.getElem?_eq_getElem hlt1⟩
      obtain ⟨a, hA, hab, hok, hcc⟩ := (HR.out.below BB_u.out HBW.out).get hd
      subst hA
      have HD : Hid (∀ X, Below u.heap.size u X → X.cell? (a.add (k * 3)) = some (.int .u8 (d.f : Int)) ∧ X.cell? ⟨(a.add (k * 3)).block, (a.add (k * 3)).off + 1, none⟩ = some (.int .u8 (d.k : Int)) ∧ X.cell? ⟨(a.add (k * 3)).block, (a.add (k * 3)).off + 2, none⟩ = some (.int .u8 (d.v : Int))) := Lib.hid (fun X hX => hcc X (hX.mono (Nat.le_trans HBW.out BB_u.out.size)))
      have d1 : (k : Int) < (l.length : Int) := by omega
      have d2 : (k : Int) < 100 := by omega
      have HS : Hid (scrS l (k + 1) = ((scrS l k).1 ++ [mkS (scrS l k).1 (scrS l k).2 d], (mkS (scrS l k).1 (scrS l k).2 d).a)) := Lib.hid (by rw [scrS, hd])
      have hat := scr_at l k
      have HLEN := Lib.hid (scr_len l k)
      have HSOK := Lib.hid (scr_ok HR.out.ok hk2)
      obtain ⟨acc, hacc⟩ : ∃ x, (scrS l k).1 = x := ⟨_, rfl⟩
      obtain ⟨t, ht⟩ : ∃ x, (scrS l k).2 = x := ⟨_, rfl⟩
      rw [hacc] at HS HLEN HSOK OW_u ⊢
      rw [ht] at HS hat ⊢
      have t1 := hat.1
      have t2 : t ≤ 2001 := by omega
      obtain ⟨F, hF⟩ : ∃ x, d.f % 20 = x := ⟨_, rfl⟩
      obtain ⟨K, hK⟩ : ∃ x, d.k % 3 = x := ⟨_, rfl⟩
      have f1 : (F : Int) ≤ 19 := by omega
      have k1 : (K : Int) ≤ 2 := by omega
      have HF1 : Hid ((d.f : Int) % 20 = (F : Int)) := Lib.hid (by omega)
      have HF2 : Hid ((d.f : Int).tmod 20 = (F : Int)) := Lib.hid (by rw [Int.tmod_eq_emod_of_nonneg (by omega)]; omega)
      have HK1 : Hid ((d.k : Int) % 3 = (K : Int)) := Lib.hid (by omega)
      have HK2 : Hid ((d.k : Int).tmod 3 = (K : Int)) := Lib.hid (by rw [Int.tmod_eq_emod_of_nonneg (by omega)]; omega)
      have hdf := hok.f
      have hdk := hok.k
      have hdv := hok.v
      have HX0 : Hid (rawS t d = ⟨t + (F : Int), (K : Int), d.v⟩) := Lib.hid (by unfold rawS; rw [hF, hK])
      have hwF : IntKind.i64.wrap (F : Int) = (F : Int) := by rw [IntKind.wrap_i64]; omega
      have hwK : IntKind.i64.wrap (K : Int) = (K : Int) := by rw [IntKind.wrap_i64]; omega
      have hwt : IntKind.i64.wrap (t + (F : Int)) = t + (F : Int) := by rw [IntKind.wrap_i64]; omega
      have HLT := Lib.hid (And.intro hlt1 hlt2)
      obtain ⟨x0, hx0⟩ : ∃ x : In, (⟨t + (F : Int), (K : Int), d.v⟩ : In) = x := ⟨_, rfl⟩
      have HXO : Hid x0.ok := Lib.hid (by rw [← hx0]; exact ⟨by show _ ≤ t + _; omega, by show t + _ ≤ _; omega, by show _ ≤ (K : Int); omega, by show (K : Int) ≤ _; omega, hdv⟩)
      have HXB : Hid (x0.a ≤ 2020 ∧ 1 ≤ x0.a) := Lib.hid (by rw [← hx0]; show t + (F : Int) ≤ 2020 ∧ 1 ≤ t + (F : Int); omega)
      rw [hx0] at HX0
      have HX1 := Lib.hid hx0
      clear hd hcc hok hlt1 hlt2 hab hat hacc ht hF hK hx0
      go_upto_region 6 with fail
      refine wp_region_noPanic ?_
      refine wp_region_held_drew (S := fun X => Below u.heap.size u X) (by kernel_rfl) ((Below.refl _ u).drew) (fun hHeld => ?_)
      refine' take_ 0 rfl (by kernel_rfl) (by kernel_rfl) (by kernel_rfl) (fun _ _ _ h => h) (by rfl) (fun wS hSw => ?_) hHeld ?_
      rotate_left
      focus (go_simp; (try with_reducible rfl); done)
      try simp only [Act.put, List.setIfInBounds_toArray, List.set_cons_zero, List.set_cons_succ]
      refine' take_ 1 rfl (by kernel_rfl) (by kernel_rfl) (by kernel_rfl) (fun _ _ _ h => h) (by rfl) (fun wS hSw => ?_) hHeld ?_
      rotate_left
      focus (go_simp; (try with_reducible rfl); done)
      try simp only [Act.put, List.setIfInBounds_toArray, List.set_cons_zero, List.set_cons_succ]
      refine' take_ 2 rfl (by kernel_rfl) (by kernel_rfl) (by kernel_rfl) (fun _ _ _ h => h) (by rfl) (fun wS hSw => ?_) hHeld ?_
      rotate_left
      focus (go_simp; (try with_reducible rfl); done)
      try simp only [Act.put, List.setIfInBounds_toArray, List.set_cons_zero, List.set_cons_succ]
      refine' take_ 3 rfl (by kernel_rfl) (by kernel_rfl) (by kernel_rfl) (fun _ _ _ h => h) (by rfl) (fun wS hSw => ?_) hHeld ?_
      rotate_left
      focus (go_simp; (try with_reducible rfl); done)
      try simp only [Act.put, List.setIfInBounds_toArray, List.set_cons_zero, List.set_cons_succ]
      refine' take_ 4 rfl (by kernel_rfl) (by kernel_rfl) (by kernel_rfl) (fun _ _ _ h => h) (by rfl) (fun wS hSw => ?_) hHeld ?_
      rotate_left
      focus (go_simp; (try with_reducible rfl); done)
      try simp only [Act.put, List.setIfInBounds_toArray, List.set_cons_zero, List.set_cons_succ]
      refine' take_ 5 rfl (by kernel_rfl) (by kernel_rfl) (by kernel_rfl) (fun _ _ _ h => h) (by rfl) (fun wS hSw => ?_) hHeld ?_
      rotate_left
      focus (obtain ⟨z0, z1, z2⟩ := HD.out _ hSw; go_simp; (try with_reducible rfl); done)
      try simp only [Act.put, List.setIfInBounds_toArray, List.set_cons_zero, List.set_cons_succ]
      refine' take_ (v := .int .u8 (F : Int)) 6 rfl (by kernel_rfl) (by kernel_rfl) (by kernel_rfl) (fun _ _ _ h => h) (by rfl) (fun wS hSw => ?_) hHeld ?_
      focus (go_simp; (first | rw [HF1.out] | rw [HF2.out]); (try with_reducible rfl); done)
      try simp only [Act.put, List.setIfInBounds_toArray, List.set_cons_zero, List.set_cons_succ]
      refine' take_ 7 rfl (by kernel_rfl) (by kernel_rfl) (by kernel_rfl) (fun _ _ _ h => h) (by rfl) (fun wS hSw => ?_) hHeld ?_
      rotate_left
      focus (go_simp; (try with_reducible rfl); done)
      try simp only [Act.put, List.setIfInBounds_toArray, List.set_cons_zero, List.set_cons_succ]
      refine' take_ 8 rfl (by kernel_rfl) (by kernel_rfl) (by kernel_rfl) (fun _ _ _ h => h) (by rfl) (fun wS hSw => ?_) hHeld ?_
      rotate_left
      focus (go_simp; (try with_reducible rfl); done)
      try simp only [Act.put, List.setIfInBounds_toArray, List.set_cons_zero, List.set_cons_succ]
      refine' take_ 9 rfl (by kernel_rfl) (by kernel_rfl) (by kernel_rfl) (fun _ _ _ h => h) (by rfl) (fun wS hSw => ?_) hHeld ?_
      rotate_left
      focus (go_simp; (try with_reducible rfl); done)
      try simp only [Act.put, List.setIfInBounds_toArray, List.set_cons_zero, List.set_cons_succ]
      refine' take_ 10 rfl (by kernel_rfl) (by kernel_rfl) (by kernel_rfl) (fun _ _ _ h => h) (by rfl) (fun wS hSw => ?_) hHeld ?_
      rotate_left
      focus (go_simp; (try with_reducible rfl); done)
      try simp only [Act.put, List.setIfInBounds_toArray, List.set_cons_zero, List.set_cons_succ]
      refine' take_ 11 rfl (by kernel_rfl) (by kernel_rfl) (by kernel_rfl) (fun _ _ _ h => h) (by rfl) (fun wS hSw => ?_) hHeld ?_
      rotate_left
      focus (go_simp; (try with_reducible rfl); done)
      try simp only [Act.put, List.setIfInBounds_toArray, List.set_cons_zero, List.set_cons_succ]
      refine' take_ 12 rfl (by kernel_rfl) (by kernel_rfl) (by kernel_rfl) (fun _ _ _ h => h) (by rfl) (fun wS hSw => ?_) hHeld ?_
      rotate_left
      focus (go_simp; (try with_reducible rfl); done)
      try simp only [Act.put, List.setIfInBounds_toArray, List.set_cons_zero, List.set_cons_succ]
      refine' take_ 13 rfl (by kernel_rfl) (by kernel_rfl) (by kernel_rfl) (fun _ _ _ h => h) (by rfl) (fun wS hSw => ?_) hHeld ?_
      rotate_left
      focus (obtain ⟨z0, z1, z2⟩ := HD.out _ hSw; go_simp; (try with_reducible rfl); done)
      try simp only [Act.put, List.setIfInBounds_toArray, List.set_cons_zero, List.set_cons_succ]
      refine' take_ (v := .int .u8 (K : Int)) 14 rfl (by kernel_rfl) (by kernel_rfl) (by kernel_rfl) (fun _ _ _ h => h) (by rfl) (fun wS hSw => ?_) hHeld ?_
      focus (go_simp; (first | rw [HK1.out] | rw [HK2.out]); (try with_reducible rfl); done)
      try simp only [Act.put, List.setIfInBounds_toArray, List.set_cons_zero, List.set_cons_succ]
      refine' take_ 15 rfl (by kernel_rfl) (by kernel_rfl) (by kernel_rfl) (fun _ _ _ h => h) (by rfl) (fun wS hSw => ?_) hHeld ?_
      rotate_left
      focus (go_simp; (try with_reducible rfl); done)
      try simp only [Act.put, List.setIfInBounds_toArray, List.set_cons_zero, List.set_cons_succ]
      refine' take_ 16 rfl (by kernel_rfl) (by kernel_rfl) (by kernel_rfl) (fun _ _ _ h => h) (by rfl) (fun wS hSw => ?_) hHeld ?_
      rotate_left
      focus (go_simp; (try with_reducible rfl); done)
      try simp only [Act.put, List.setIfInBounds_toArray, List.set_cons_zero, List.set_cons_succ]
      refine' take_ 17 rfl (by kernel_rfl) (by kernel_rfl) (by kernel_rfl) (fun _ _ _ h => h) (by rfl) (fun wS hSw => ?_) hHeld ?_
      rotate_left
      focus (go_simp; (try with_reducible rfl); done)
      try simp only [Act.put, List.setIfInBounds_toArray, List.set_cons_zero, List.set_cons_succ]
      refine' take_ 18 rfl (by kernel_rfl) (by kernel_rfl) (by kernel_rfl) (fun _ _ _ h => h) (by rfl) (fun wS hSw => ?_) hHeld ?_
      rotate_left
      focus (go_simp; (try with_reducible rfl); done)
      try simp only [Act.put, List.setIfInBounds_toArray, List.set_cons_zero, List.set_cons_succ]
      refine' take_ 19 rfl (by kernel_rfl) (by kernel_rfl) (by kernel_rfl) (fun _ _ _ h => h) (by rfl) (fun wS hSw => ?_) hHeld ?_
      rotate_left
      focus (go_simp; (try with_reducible rfl); done)
      try simp only [Act.put, List.setIfInBounds_toArray, List.set_cons_zero, List.set_cons_succ]
      refine' take_ 20 rfl (by kernel_rfl) (by kernel_rfl) (by kernel_rfl) (fun _ _ _ h => h) (by rfl) (fun wS hSw => ?_) hHeld ?_
      rotate_left
      focus (obtain ⟨z0, z1, z2⟩ := HD.out _ hSw; go_simp; (try with_reducible rfl); done)
      try simp only [Act.put, List.setIfInBounds_toArray, List.set_cons_zero, List.set_cons_succ]
      refine' take_ 21 rfl (by kernel_rfl) (by kernel_rfl) (by kernel_rfl) (fun _ _ _ h => h) (by rfl) (fun wS hSw => ?_) hHeld ?_
      rotate_left
      focus (go_simp; (try with_reducible rfl); done)
      try simp only [Act.put, List.setIfInBounds_toArray, List.set_cons_zero, List.set_cons_succ]
      refine only_ 22 rfl (by kernel_rfl) (by rfl) (fun K' hK => ?_)
      obtain ⟨Y0, hY⟩ : ∃ Y, u.drew = Y := ⟨_, rfl⟩
      rw [hY] at hHeld ⊢
      clear hY
      refine wp_of_run (w' := Y0.alloc (.cells #[.int .i64 0, .int .i64 0, .int .u8 0] 25)) (.pointer (some ⟨Y0.heap.size, 0, none⟩)) (by kernel_rfl) ?_
      have hH1 := hHeld.alloc hHeld.size (.cells #[.int .i64 0, .int .i64 0, .int .u8 0] 25)
      have r1 : VRow _ Y0.heap.size 25 [.int .i64 0, .int .i64 0, .int .u8 0] := alloc_at Y0 (.cells #[.int .i64 0, .int .i64 0, .int .u8 0] 25)
      have hb := hHeld.size
      refine hK.out _ _ hH1 (fun _ => ?_)
      clear hK K'
      generalize Y0.alloc (.cells #[.int .i64 0, .int .i64 0, .int .u8 0] 25) = Y1 at *
      obtain ⟨gx, hgx⟩ : ∃ g, Y0.heap.size = g := ⟨_, rfl⟩
      rw [hgx] at r1 hb ⊢
      clear hHeld hgx
      show wpAnyH _ _ _ _ _ _ _ (Act.put _ (some 6) _) _
      try simp only [Act.put, List.setIfInBounds_toArray, List.set_cons_zero, List.set_cons_succ]
      refine only_ 23 rfl (by kernel_rfl) (by rfl) (fun K' hK => ?_)
      refine wp_store_v 25 _ _ rfl gx rfl (ic x0) (by rw [← HX1.out]; rfl) (by kernel_rfl) (ic_one x0) 25 _ r1 rfl ?_
      intro z HN HO HB
      have RX_z : Hid (IRow z gx x0) := HN
      have hHz := hH1.trans (HB.out.mono hb)
      refine hK.out _ _ hHz (fun _ => ?_)
      have LX := Lib.hid hb
      clear hK K' hH1 HN HO HB r1 hb
      show wpAnyH _ _ _ _ _ _ _ (Act.put _ none _) _
      try simp only [Act.put]
      refine wpAnyH_done (by kernel_rfl) ?_ _
      refine NoPanic.normal ?_
      have HZ := Lib.hid hHz
      clear hHz
      rcases Nat.eq_zero_or_pos acc.length with h0 | hpos
      · obtain rfl : acc = [] := List.eq_nil_of_length_eq_zero h0
        have HM : Hid (mkS [] t d = x0) := Lib.hid (by rw [← HX0.out]; rfl)
        clear h0
        go_upto_region 7 with fail
        refine wp_region_noPanic ?_
        refine wp_region_held_drew (S := fun X => Below z.heap.size z X) (by kernel_rfl) ((Below.refl _ z).drew) (fun hHeld => ?_)
        refine' take_ 0 rfl (by kernel_rfl) (by kernel_rfl) (by kernel_rfl) (fun _ _ _ h => h) (by rfl) (fun wS hSw => ?_) hHeld ?_
        rotate_left
        focus (go_simp; (try with_reducible rfl); done)
        try simp only [Act.put, List.setIfInBounds_toArray, List.set_cons_zero, List.set_cons_succ]
        refine' take_ 1 rfl (by kernel_rfl) (by kernel_rfl) (by kernel_rfl) (fun _ _ _ h => h) (by rfl) (fun wS hSw => ?_) hHeld ?_
        rotate_left
        focus (go_simp; (try with_reducible rfl); done)
        try simp only [Act.put, List.setIfInBounds_toArray, List.set_cons_zero, List.set_cons_succ]
        refine' take_ 2 rfl (by kernel_rfl) (by kernel_rfl) (by kernel_rfl) (fun _ _ _ h => h) (by rfl) (fun wS hSw => ?_) hHeld ?_
        rotate_left
        focus (go_simp; (try with_reducible rfl); done)
        try simp only [Act.put, List.setIfInBounds_toArray, List.set_cons_zero, List.set_cons_succ]
        refine' take_ 3 rfl (by kernel_rfl) (by kernel_rfl) (by kernel_rfl) (fun _ _ _ h => h) (by rfl) (fun wS hSw => ?_) hHeld ?_
        rotate_left
        focus (go_simp; (try with_reducible rfl); done)
        try simp only [Act.put, List.setIfInBounds_toArray, List.set_cons_zero, List.set_cons_succ]
        refine' pass_ 4 rfl (by kernel_rfl) (by kernel_rfl) (by kernel_rfl) (fun _ _ _ h => h) (by rfl) hHeld ?_
        try simp only [Act.put, List.setIfInBounds_toArray, List.set_cons_zero, List.set_cons_succ]
        refine' pass_ 5 rfl (by kernel_rfl) (by kernel_rfl) (by kernel_rfl) (fun _ _ _ h => h) (by rfl) hHeld ?_
        try simp only [Act.put, List.setIfInBounds_toArray, List.set_cons_zero, List.set_cons_succ]
        refine' pass_ 6 rfl (by kernel_rfl) (by kernel_rfl) (by kernel_rfl) (fun _ _ _ h => h) (by rfl) hHeld ?_
        try simp only [Act.put, List.setIfInBounds_toArray, List.set_cons_zero, List.set_cons_succ]
        refine' pass_ 7 rfl (by kernel_rfl) (by kernel_rfl) (by kernel_rfl) (fun _ _ _ h => h) (by rfl) hHeld ?_
        try simp only [Act.put, List.setIfInBounds_toArray, List.set_cons_zero, List.set_cons_succ]
        refine' pass_ 8 rfl (by kernel_rfl) (by kernel_rfl) (by kernel_rfl) (fun _ _ _ h => h) (by rfl) hHeld ?_
        try simp only [Act.put, List.setIfInBounds_toArray, List.set_cons_zero, List.set_cons_succ]
        refine' pass_ 9 rfl (by kernel_rfl) (by kernel_rfl) (by kernel_rfl) (fun _ _ _ h => h) (by rfl) hHeld ?_
        try simp only [Act.put, List.setIfInBounds_toArray, List.set_cons_zero, List.set_cons_succ]
        refine' pass_ 10 rfl (by kernel_rfl) (by kernel_rfl) (by kernel_rfl) (fun _ _ _ h => h) (by rfl) hHeld ?_
        try simp only [Act.put, List.setIfInBounds_toArray, List.set_cons_zero, List.set_cons_succ]
        refine' pass_ 11 rfl (by kernel_rfl) (by kernel_rfl) (by kernel_rfl) (fun _ _ _ h => h) (by rfl) hHeld ?_
        try simp only [Act.put, List.setIfInBounds_toArray, List.set_cons_zero, List.set_cons_succ]
        refine' pass_ 12 rfl (by kernel_rfl) (by kernel_rfl) (by kernel_rfl) (fun _ _ _ h => h) (by rfl) hHeld ?_
        try simp only [Act.put, List.setIfInBounds_toArray, List.set_cons_zero, List.set_cons_succ]
        refine' take_ 13 rfl (by kernel_rfl) (by kernel_rfl) (by kernel_rfl) (fun _ _ _ h => h) (by rfl) (fun wS hSw => ?_) hHeld ?_
        rotate_left
        focus (go_simp; (try with_reducible rfl); done)
        try simp only [Act.put, List.setIfInBounds_toArray, List.set_cons_zero, List.set_cons_succ]
        refine wpAnyH_done (by kernel_rfl) ?_ _
        refine NoPanic.normal ?_
        have HW := Lib.hid (HZ.out.trans (hHeld.mono HZ.out.size))
        have RX_x := Lib.hid (IRow.below RX_z.out hHeld RX_z.out.lt)
        clear hHeld
        obtain ⟨y, hy⟩ : ∃ Y, z.drew = Y := ⟨_, rfl⟩
        rw [hy] at HW RX_x ⊢
        clear hy
        obtain ⟨x1, hx1⟩ : ∃ x, x0 = x := ⟨_, rfl⟩
        rw [hx1] at HM RX_x
        clear hx1
        have c0 := RX_x.out.c0
        go_wp2_with (first
          | (at_builtin; (with_reducible show wpList _ _ _ (⟨some 62, _, _, _, _, _⟩ :: _) _ _); go_must (refine wpList_append_blk _ rfl (.tmp 59) (.tmp 61) 22 rfl (w.heap.size) 25 i0 _ 3 24 Try.underlying22 H12.out H9.out H10.out H11.out rfl (by omega) (.slice oA ([] : List In).length ocap) ([] : List In).length (([] : List In).flatMap ic) rfl ((OW_u.out.below HW.out (Nat.le_refl _)).below ((Below.refl y.heap.size y).alloc (Nat.le_refl _) _) (Nat.le_refl _)) ⟨y.heap.size, 0, none⟩ 1 1 (ic x1) rfl rfl (news_in y x1 _ rfl) (ic_one x1) (by simp only [maxLen]; have := HLT.out.2; have := HLEN.out; omega) (by have := HLT.out.2; have := HLEN.out; omega) (Nat.le_trans (Nat.le_trans BB_u.out.size HW.out.size) (by simp)) ?_); intro v3 w3 hown hgrow hblk; have OW_3 : Hid (OwnI w3 w.heap.size v3 (([] : List In) ++ [x1])) := Lib.hid (OwnI.snoc hown); have BB_3 : Hid (Below w.heap.size w w3) := Lib.hid (below_gb ((BB_u.out.trans (HW.out.mono BB_u.out.size)).alloc (BB_u.out.trans (HW.out.mono BB_u.out.size)).size _) hgrow (Nat.le_trans (Nat.le_trans BB_u.out.size HW.out.size) (by simp)) (fun b hb => (World.ownsRow.lt OW_u.out b hb).1)); clear hown hgrow hblk)
          | ((with_reducible show wpList _ _ _ (⟨some 60, .load 25 (.tmp 6), _, _, _, _⟩ :: _) _ _); refine wpList_load_v (by rfl) 25 _ rfl gx (by exact rfl) _ Try.underlying25 25 ([.int .i64 x1.a, .int .i64 x1.k, .int .u8 (x1.v : Int)]) RX_x.out (by kernel_rfl) ?_))
        go_roundw
        case rel => exact ⟨k + 1, by have := HLT.out.1; omega, by have := HLT.out.2; omega, by go_num, by rw [HS.out, HM.out], by rw [HS.out, HM.out]; exact OW_3.out, BB_3.out⟩
        case measure =>
          simp [intOf]
          have := HLT.out.2
          (try omega)
      obtain ⟨j, hj⟩ : ∃ j, acc.length = j + 1 := ⟨acc.length - 1, by omega⟩
      obtain ⟨yl, hyl⟩ : ∃ y, acc[j]? = some y := ⟨acc[j], List.getElem?_eq_getElem (by omega)⟩
      have hgl : acc.getLast? = some yl := by rw [List.getLast?_eq_getElem?, hj]; exact hyl
      obtain ⟨A', cap', e', hrd⟩ := OW_u.out.rd (by have := HLEN.out; have := HLT.out; omega) HSOK.out
      obtain ⟨b', rfl, hbl, hyok, hcy, _⟩ := hrd.get hyl
      simp only [Value.slice.injEq, true_and] at e'
      obtain ⟨rfl, rfl⟩ := e'
      have HM : Hid (mkS acc t d = if aheadI yl x0 = true then x0 else { x0 with a := x0.a + 1 }) := Lib.hid (by unfold mkS; rw [hgl, HX0.out])
      have HCY := Lib.hid hcy
      have LB := Lib.hid hbl
      have KA := Lib.hid (fun W => rAhead_any yl x0 W hyok HXO.out)
      obtain ⟨ah, hah⟩ : ∃ z, aheadI yl x0 = z := ⟨_, rfl⟩
      rw [hah] at KA HM
      have hlp : 0 < (acc.length : Int) := by omega
      have hkk : (acc.length : Int) - 1 = (j : Int) := by omega
      have hwj : IntKind.i64.wrap (j : Int) = (j : Int) := by rw [IntKind.wrap_i64]; have := HLEN.out; have := HLT.out; omega
      have hjd : (j : Int) < (acc.length : Int) := by omega
      have HP := Lib.hid hpos
      clear hj hyl hgl hrd hbl hyok hcy hah hpos
      go_upto_region 7 with fail
      refine wp_region_noPanic ?_
      refine wp_region_held_drew (S := fun X => Below z.heap.size z X) (by kernel_rfl) ((Below.refl _ z).drew) (fun hHeld => ?_)
      refine' take_ 0 rfl (by kernel_rfl) (by kernel_rfl) (by kernel_rfl) (fun _ _ _ h => h) (by rfl) (fun wS hSw => ?_) hHeld ?_
      rotate_left
      focus (go_simp; (try with_reducible rfl); done)
      try simp only [Act.put, List.setIfInBounds_toArray, List.set_cons_zero, List.set_cons_succ]
      refine' take_ 1 rfl (by kernel_rfl) (by kernel_rfl) (by kernel_rfl) (fun _ _ _ h => h) (by rfl) (fun wS hSw => ?_) hHeld ?_
      rotate_left
      focus (go_simp; (try with_reducible rfl); done)
      try simp only [Act.put, List.setIfInBounds_toArray, List.set_cons_zero, List.set_cons_succ]
      refine' take_ (v := .bool true) 2 rfl (by kernel_rfl) (by kernel_rfl) (by kernel_rfl) (fun _ _ _ h => h) (by rfl) (fun wS hSw => ?_) hHeld ?_
      focus (go_simp; exact HP.out)
      try simp only [Act.put, List.setIfInBounds_toArray, List.set_cons_zero, List.set_cons_succ]
      refine' take_ 3 rfl (by kernel_rfl) (by kernel_rfl) (by kernel_rfl) (fun _ _ _ h => h) (by rfl) (fun wS hSw => ?_) hHeld ?_
      rotate_left
      focus (go_simp; (try with_reducible rfl); done)
      try simp only [Act.put, List.setIfInBounds_toArray, List.set_cons_zero, List.set_cons_succ]
      refine' take_ 4 rfl (by kernel_rfl) (by kernel_rfl) (by kernel_rfl) (fun _ _ _ h => h) (by rfl) (fun wS hSw => ?_) hHeld ?_
      rotate_left
      focus (go_simp; (try with_reducible rfl); done)
      try simp only [Act.put, List.setIfInBounds_toArray, List.set_cons_zero, List.set_cons_succ]
      refine' take_ 5 rfl (by kernel_rfl) (by kernel_rfl) (by kernel_rfl) (fun _ _ _ h => h) (by rfl) (fun wS hSw => ?_) hHeld ?_
      rotate_left
      focus (go_simp; (try with_reducible rfl); done)
      try simp only [Act.put, List.setIfInBounds_toArray, List.set_cons_zero, List.set_cons_succ]
      refine' take_ 6 rfl (by kernel_rfl) (by kernel_rfl) (by kernel_rfl) (fun _ _ _ h => h) (by rfl) (fun wS hSw => ?_) hHeld ?_
      rotate_left
      focus (go_simp; (try with_reducible rfl); done)
      try simp only [Act.put, List.setIfInBounds_toArray, List.set_cons_zero, List.set_cons_succ]
      refine' take_ 7 rfl (by kernel_rfl) (by kernel_rfl) (by kernel_rfl) (fun _ _ _ h => h) (by rfl) (fun wS hSw => ?_) hHeld ?_
      rotate_left
      focus (go_simp; (try with_reducible rfl); done)
      try simp only [Act.put, List.setIfInBounds_toArray, List.set_cons_zero, List.set_cons_succ]
      refine' take_ 8 rfl (by kernel_rfl) (by kernel_rfl) (by kernel_rfl) (fun _ _ _ h => h) (by rfl) (fun wS hSw => ?_) hHeld ?_
      rotate_left
      focus (go_simp; (try with_reducible rfl); done)
      try simp only [Act.put, List.setIfInBounds_toArray, List.set_cons_zero, List.set_cons_succ]
      refine' take_ 9 rfl (by kernel_rfl) (by kernel_rfl) (by kernel_rfl) (fun _ _ _ h => h) (by rfl) (fun wS hSw => run_load_ad wS 25 _ _ rfl _ _ ((HCY.out.below HZ.out (by rw [add_block]; exact LB.out)).below hSw (by rw [add_block]; exact Nat.lt_of_lt_of_le LB.out HZ.out.size)) Try.underlying25 rfl (by kernel_rfl) _ _ _ _ _) hHeld ?_
      try simp only [Act.put, List.setIfInBounds_toArray, List.set_cons_zero, List.set_cons_succ]
      refine' take_ 10 rfl (by kernel_rfl) (by kernel_rfl) (by kernel_rfl) (fun _ _ _ h => h) (by rfl) (fun wS hSw => run_load_v wS 25 _ gx rfl _ Try.underlying25 25 (ic x0) (IRow.below RX_z.out hSw RX_z.out.lt) (by kernel_rfl) _ _ _ _ _) hHeld ?_
      try simp only [Act.put, List.setIfInBounds_toArray, List.set_cons_zero, List.set_cons_succ]
      refine only_ 11 rfl (by kernel_rfl) (by rfl) (fun K' hK => ?_)
      obtain ⟨Y, hY⟩ : ∃ Y, z.drew = Y := ⟨_, rfl⟩
      rw [hY] at hHeld ⊢
      clear hY
      refine wp_call_ret 21 _ _ rfl _ (by rfl) (by kernel_rfl) _ (KA.out _) (fun y hB => ?_)
      have hH2 := hHeld.trans (hB.mono hHeld.size)
      refine hK.out _ _ hH2 (fun _ => ?_)
      clear hK K' hB hHeld
      have hHeld := hH2
      clear hH2
      show wpAnyH _ _ _ _ _ _ _ (Act.put _ (some 50) _) _
      try simp only [Act.put, List.setIfInBounds_toArray, List.set_cons_zero, List.set_cons_succ]
      refine' take_ 12 rfl (by kernel_rfl) (by kernel_rfl) (by kernel_rfl) (fun _ _ _ h => h) (by rfl) (fun wS hSw => ?_) hHeld ?_
      rotate_left
      focus (go_simp; (try with_reducible rfl); done)
      try simp only [Act.put, List.setIfInBounds_toArray, List.set_cons_zero, List.set_cons_succ]
      refine' take_ 13 rfl (by kernel_rfl) (by kernel_rfl) (by kernel_rfl) (fun _ _ _ h => h) (by rfl) (fun wS hSw => ?_) hHeld ?_
      rotate_left
      focus (go_simp; (try with_reducible rfl); done)
      try simp only [Act.put, List.setIfInBounds_toArray, List.set_cons_zero, List.set_cons_succ]
      refine wpAnyH_done (by kernel_rfl) ?_ _
      refine NoPanic.normal ?_
      have HW0 := Lib.hid (HZ.out.trans (hHeld.mono HZ.out.size))
      have RX_y := Lib.hid (IRow.below RX_z.out hHeld RX_z.out.lt)
      clear hHeld hkk hwj hjd hlp
      cases ah
      · obtain ⟨x1, hx1⟩ : ∃ x : In, ({ x0 with a := x0.a + 1 } : In) = x := ⟨_, rfl⟩
        have HX2 := Lib.hid hx1
        have HM2 : Hid (mkS acc t d = x1) := Lib.hid (by rw [HM.out, ← hx1]; rfl)
        replace HM := HM2
        clear hx1 HM2
        have c0 := RX_y.out.c0
        have xb := HXB.out
        have xb1 := xb.1
        have xb2 := xb.2
        clear xb
        go_upto_region 9 with (first
          | ((with_reducible show wpList _ _ _ (⟨none, .store 3 (.tmp 56) (.tmp 55), _, _, _, _⟩ :: _) _ _); refine wpList_store_c rfl 3 _ _ rfl gx 0 (by exact rfl) (.int .i64 (x0.a + 1)) (by exact rfl) rfl (by kernel_rfl) 25 _ RX_y.out (show 0 < 3 by decide) ?_; intro x' HN HO HB; have RX_x : Hid (IRow x' gx x1) := Lib.hid (by rw [← HX2.out]; exact HN.out); have HW := Lib.hid (HW0.out.trans (HB.out.mono LX.out)); clear HN HO HB))
        clear c0
        have c0 := RX_x.out.c0
        go_wp2_with (first
          | (at_builtin; (with_reducible show wpList _ _ _ (⟨some 62, _, _, _, _, _⟩ :: _) _ _); go_must (refine wpList_append_blk _ rfl (.tmp 59) (.tmp 61) 22 rfl (w.heap.size) 25 i0 _ 3 24 Try.underlying22 H12.out H9.out H10.out H11.out rfl (by omega) (.slice (some b') acc.length ocap) acc.length (acc.flatMap ic) rfl ((OW_u.out.below HW.out (Nat.le_refl _)).below ((Below.refl x'.heap.size x').alloc (Nat.le_refl _) _) (Nat.le_refl _)) ⟨x'.heap.size, 0, none⟩ 1 1 (ic x1) rfl rfl (news_in x' x1 _ rfl) (ic_one x1) (by simp only [maxLen]; have := HLT.out.2; have := HLEN.out; omega) (by have := HLT.out.2; have := HLEN.out; omega) (Nat.le_trans (Nat.le_trans BB_u.out.size HW.out.size) (by simp)) ?_); intro v3 w3 hown hgrow hblk; have OW_3 : Hid (OwnI w3 w.heap.size v3 (acc ++ [x1])) := Lib.hid (OwnI.snoc hown); have BB_3 : Hid (Below w.heap.size w w3) := Lib.hid (below_gb ((BB_u.out.trans (HW.out.mono BB_u.out.size)).alloc (BB_u.out.trans (HW.out.mono BB_u.out.size)).size _) hgrow (Nat.le_trans (Nat.le_trans BB_u.out.size HW.out.size) (by simp)) (fun b hb => (World.ownsRow.lt OW_u.out b hb).1)); clear hown hgrow hblk)
          | ((with_reducible show wpList _ _ _ (⟨some 60, .load 25 (.tmp 6), _, _, _, _⟩ :: _) _ _); refine wpList_load_v (by rfl) 25 _ rfl gx (by exact rfl) _ Try.underlying25 25 ([.int .i64 x1.a, .int .i64 x1.k, .int .u8 (x1.v : Int)]) RX_x.out (by kernel_rfl) ?_))
        go_roundw
        case rel => exact ⟨k + 1, by have := HLT.out.1; omega, by have := HLT.out.2; omega, by go_num, by rw [HS.out, HM.out], by rw [HS.out, HM.out]; exact OW_3.out, BB_3.out⟩
        case measure =>
          simp [intOf]
          have := HLT.out.2
          (try omega)
      · have HM2 : Hid (mkS acc t d = x0) := Lib.hid (by rw [HM.out]; rfl)
        replace HM := HM2
        clear HM2
        have HW := HW0
        obtain ⟨x1, hx1⟩ : ∃ x, x0 = x := ⟨_, rfl⟩
        have RX_x := RX_y
        rw [hx1] at HM RX_x
        clear hx1 RX_y HW0
        have c0 := RX_x.out.c0
        go_wp2_with (first
          | (at_builtin; (with_reducible show wpList _ _ _ (⟨some 62, _, _, _, _, _⟩ :: _) _ _); go_must (refine wpList_append_blk _ rfl (.tmp 59) (.tmp 61) 22 rfl (w.heap.size) 25 i0 _ 3 24 Try.underlying22 H12.out H9.out H10.out H11.out rfl (by omega) (.slice (some b') acc.length ocap) acc.length (acc.flatMap ic) rfl ((OW_u.out.below HW.out (Nat.le_refl _)).below ((Below.refl y.heap.size y).alloc (Nat.le_refl _) _) (Nat.le_refl _)) ⟨y.heap.size, 0, none⟩ 1 1 (ic x1) rfl rfl (news_in y x1 _ rfl) (ic_one x1) (by simp only [maxLen]; have := HLT.out.2; have := HLEN.out; omega) (by have := HLT.out.2; have := HLEN.out; omega) (Nat.le_trans (Nat.le_trans BB_u.out.size HW.out.size) (by simp)) ?_); intro v3 w3 hown hgrow hblk; have OW_3 : Hid (OwnI w3 w.heap.size v3 (acc ++ [x1])) := Lib.hid (OwnI.snoc hown); have BB_3 : Hid (Below w.heap.size w w3) := Lib.hid (below_gb ((BB_u.out.trans (HW.out.mono BB_u.out.size)).alloc (BB_u.out.trans (HW.out.mono BB_u.out.size)).size _) hgrow (Nat.le_trans (Nat.le_trans BB_u.out.size HW.out.size) (by simp)) (fun b hb => (World.ownsRow.lt OW_u.out b hb).1)); clear hown hgrow hblk)
          | ((with_reducible show wpList _ _ _ (⟨some 60, .load 25 (.tmp 6), _, _, _, _⟩ :: _) _ _); refine wpList_load_v (by rfl) 25 _ rfl gx (by exact rfl) _ Try.underlying25 25 ([.int .i64 x1.a, .int .i64 x1.k, .int .u8 (x1.v : Int)]) RX_x.out (by kernel_rfl) ?_))
        go_roundw
        case rel => exact ⟨k + 1, by have := HLT.out.1; omega, by have := HLT.out.2; omega, by go_num, by rw [HS.out, HM.out], by rw [HS.out, HM.out]; exact OW_3.out, BB_3.out⟩
        case measure =>
          simp [intOf]
          have := HLT.out.2
          (try omega)
    · have HE : Hid (scriptL l = (scrS l k).1) := Lib.hid (by unfold scriptL; rw [show min l.length 100 = k by omega])
      have hd : ¬ ((k : Int) < (l.length : Int)) ∨ ((k : Int) < (l.length : Int) ∧ ¬ (k : Int) < 100) := by omega
      clear hlt
      obtain ⟨L, hL⟩ : ∃ x, (scrS l k).1 = x := ⟨_, rfl⟩
      have HE2 : Hid (scriptL l = L) := Lib.hid (HE.out.trans hL)
      rw [hL] at OW_u ⊢
      clear hL HE
      rcases hd with d1 | ⟨d1, d2⟩
      · go_wp2_with fail
        exact bodyPost_ret (v := .slice oA L.length ocap) (results_tmp Try.results7 _ _ _) rfl ⟨⟨_, rfl, by rw [HE2.out]; exact OW_u.out⟩, BB_u.out⟩
      · go_wp2_with fail
        exact bodyPost_ret (v := .slice oA L.length ocap) (results_tmp Try.results7 _ _ _) rfl ⟨⟨_, rfl, by rw [HE2.out]; exact OW_u.out⟩, BB_u.out⟩
end Go.Proofs.Ytimlhckihkjifaa
