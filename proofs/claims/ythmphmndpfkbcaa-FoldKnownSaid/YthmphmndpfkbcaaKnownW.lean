/-
  FoldKnown's walk (as far as it goes). Made by wip/genknownb.py.
-/
import Derived.Test.YthmphmndpfkbcaaKnownD
import Derived.Deep.DeepCutAuto
namespace Go.Proofs.Ythmphmndpfkbcaa
open Go.RowKit
set_option linter.unusedSimpArgs false in
set_option maxRecDepth 100000 in
set_option maxHeartbeats 4000000 in
theorem known_walk (w : World) : Calls Try.prog 5 #[] w fun e w' => e = .returned (.bool true) ∧ Below w.heap.size w w' := by
  go_enter Try.func5, Try.ntmps5
  go_upto_region 3 with (first | (go_at_call 17; with_reducible refine (num_any 4294967295 2 _).mono ?_; rintro e w1 ⟨rfl, hb1⟩) | (go_at_call 17; with_reducible refine (num_any 4 2 _).mono ?_; rintro e w2 ⟨rfl, hb2⟩) | (go_at_call 17; with_reducible refine (num_any 5 2 _).mono ?_; rintro e w3 ⟨rfl, hb3⟩) | (go_at_call 17; with_reducible refine (num_any 2 2 _).mono ?_; rintro e w4 ⟨rfl, hb4⟩))
  refine code_letter (KI w (w2.heap.size + 1 + 1) (w2.heap.size + 1) (w4.heap.size + 1 + 1) (w4.heap.size + 1)) (known_start w w1 w2 w3 w4 _ _ _ _ _ _ hb1 hb2 hb3 hb4 rfl rfl rfl rfl rfl rfl) (fun W0 hk0 => ?_)
  have HK0 := Lib.hid hk0
  clear hk0 hb1 hb2 hb3 hb4
  generalize w2.heap.size + 1 + 1 = h1 at *
  generalize w2.heap.size + 1 = q1 at *
  generalize w4.heap.size + 1 + 1 = h2 at *
  generalize w4.heap.size + 1 = q2 at *
  go_cut [3, 4] from 7 to 22 (fun v3 v4 wx => ∃ (W : World) (h3 h4 b : Nat) (A : Option Nat) (c cc : Nat), W = wx ∧ v3 = .pointer (some ⟨h3, 0, none⟩) ∧ v4 = .pointer (some ⟨h4, 0, none⟩) ∧ KN w h1 q1 h3 h4 b A c cc W)
  case first =>
    rename_i J K2 hJ hK2
    refine wp_region_noPanic ?_
    refine wp_region_held_drew (S := fun W => Below W0.heap.size W0 W) (by kernel_rfl) ((Below.refl _ _).drew) (fun hHeld => ?_)
    refine' take_ 0 rfl (by kernel_rfl) (by kernel_rfl) (by kernel_rfl) (fun _ _ _ h => h) (by rfl) (fun wS hSw => run_load_at wS 27 _ h1 0 rfl _ _ (row_cells (HK0.out.b1.under hSw).row) Try.underlying27 rfl (by kernel_rfl) _ _ _ _ _) hHeld ?_
    try simp only [Act.put, List.setIfInBounds_toArray, List.set_cons_zero, List.set_cons_succ]
    refine' take_ 2 rfl (by kernel_rfl) (by kernel_rfl) (by kernel_rfl) (fun _ _ _ h => h) (by rfl) (fun wS hSw => run_load_at wS 27 _ h2 0 rfl _ _ (row_cells (HK0.out.b2.under hSw).row) Try.underlying27 rfl (by kernel_rfl) _ _ _ _ _) hHeld ?_
    try simp only [Act.put, List.setIfInBounds_toArray, List.set_cons_zero, List.set_cons_succ]
    refine any_letter (fun W => Below W0.heap.size W0 W) hHeld (fun Wa hT => ?_)
    clear hHeld
    have hHeld := hT
    clear hT
    refine three_ 1 4 5 rfl rfl rfl (by kernel_rfl) (by rfl) (by rfl) (by rfl) (fun K hK => ?_) (fun K hK => ?_) (fun K hK => ?_)
    · go_simp
      refine (fold_any 7 0 ⟨#[]⟩ ⟨#[]⟩ 0 1 0 (some q1) 1 [shlT] _ _ (HK0.out.b1.under hHeld).sl (fun _ h => h)).mono ?_
      rintro e wf hans
      obtain ⟨A, c, rfl, hbf⟩ := DeepAns.of hans
      clear hans
      go_simp
      refine hK.out _ _ (hHeld.trans (hbf.mono hHeld.size)) (fun hHeld2 => ?_)
      try simp only [Act.put, List.setIfInBounds_toArray, List.set_cons_zero, List.set_cons_succ]
      refine any_letter (fun W => Below W0.heap.size W0 W) hHeld2 (fun W1 hT => ?_)
      clear hK K hHeld hHeld2
      have hHeld := hT
      clear hT
      refine three_ 3 4 5 rfl rfl rfl (by kernel_rfl) (by rfl) (by rfl) (by rfl) (fun K hK => ?_) (fun K hK => ?_) (fun K hK => ?_)
      · go_simp
        refine (fold_any 28 0 ⟨#[]⟩ ⟨#[]⟩ 4 1 0 (some q2) 1 [subT] _ _ (HK0.out.b2.under hHeld).sl (fun _ h => h)).mono ?_
        rintro e wf hans
        obtain ⟨b, cc, rfl, hlb, hlt, hx0, hx4, hbf⟩ := CellAns.of hans
        clear hans
        go_simp
        refine hK.out _ _ (hHeld.trans (hbf.mono hHeld.size)) (fun hHeld2 => ?_)
        try simp only [Act.put, List.setIfInBounds_toArray, List.set_cons_zero, List.set_cons_succ]
        refine any_letter (fun W => Below W0.heap.size W0 W ∧ CIn b W) ⟨hHeld2, ⟨hlt, hx0, hx4⟩⟩ (fun W2 hT => ?_)
        clear hK K hHeld hHeld2
        obtain ⟨hHeld, tC⟩ := hT
        have HC := Lib.hid tC
        clear tC
        refine both_ 4 5 rfl rfl (by kernel_rfl) (by rfl) (by rfl) (fun K hK => ?_) (fun K hK => ?_)
        · go_simp
          have l3 : W0.heap.size ≤ W2.heap.size := hHeld.size
          have nb3 : b ≠ W2.heap.size := by
            have := HC.out.1
            omega
          refine hK.out _ _ (hHeld.alloc hHeld.size _) (fun hHeld2 => ?_)
          try simp only [Act.put, List.setIfInBounds_toArray, List.set_cons_zero, List.set_cons_succ]
          refine any_letter (fun W => Below W0.heap.size W0 W ∧ CIn b W ∧ Own W2.heap.size zeroL W) ⟨hHeld2, HC.out.under ((Below.refl _ _).alloc (Nat.le_refl _) _), Own.new _ _ _ rfl⟩ (fun W3 hT => ?_)
          clear hK K hHeld hHeld2
          clear HC
          obtain ⟨hHeld, tC, tR3⟩ := hT
          have HC := Lib.hid tC
          have HR3 := Lib.hid tR3
          clear tC tR3
          refine only_ 5 rfl (by kernel_rfl) (by rfl) (fun K hK => ?_)
          go_simp
          have l4 : W0.heap.size ≤ W3.heap.size := hHeld.size
          have nb4 : b ≠ W3.heap.size := by
            have := HC.out.1
            omega
          have n34 : W2.heap.size ≠ W3.heap.size := by
            have := HR3.out.1
            omega
          refine hK.out _ _ (hHeld.alloc hHeld.size _) (fun hHeld2 => ?_)
          try simp only [Act.put, List.setIfInBounds_toArray, List.set_cons_zero, List.set_cons_succ]
          refine any_letter (fun W => Below W0.heap.size W0 W ∧ CIn b W ∧ Own W2.heap.size zeroL W ∧ Own W3.heap.size zeroL W) ⟨hHeld2, HC.out.under ((Below.refl _ _).alloc (Nat.le_refl _) _), HR3.out.under ((Below.refl _ _).alloc (Nat.le_refl _) _), Own.new _ _ _ rfl⟩ (fun W4 hT => ?_)
          clear hK K hHeld hHeld2
          clear HC HR3
          obtain ⟨hHeld, tC, tR3, tR4⟩ := hT
          have HC := Lib.hid tC
          have HR3 := Lib.hid tR3
          have HR4 := Lib.hid tR4
          clear tC tR3 tR4
          refine only_ 6 rfl (by kernel_rfl) (by rfl) (fun K hK => ?_)
          refine wp_store_row rfl 27 _ _ rfl (W2.heap.size) 0 rfl (exL 0 0 ⟨#[]⟩ ⟨#[]⟩ (-16) 1 0 A 0 c) rfl (by kernel_rfl) zeroL (exL 0 0 ⟨#[]⟩ ⟨#[]⟩ (-16) 1 0 A 0 c) 27 HR3.out.2 (by show 0 + 8 ≤ 8; omega) (exL_one _ _ _ _ _ _ _ _ _ _) rfl ?_
          refine hK.out _ _ (setRow_below hHeld l3 _) (fun hHeld2 => ?_)
          try simp only [Act.put, List.setIfInBounds_toArray, List.set_cons_zero, List.set_cons_succ]
          refine any_letter (fun W => Below W0.heap.size W0 W ∧ CIn b W ∧ Own W2.heap.size (exL 0 0 ⟨#[]⟩ ⟨#[]⟩ (-16) 1 0 A 0 c) W ∧ Own W3.heap.size zeroL W) ⟨hHeld2, HC.out.set nb3 _, HR3.out.set _, HR4.out.other (Ne.symm n34) _⟩ (fun W5 hT => ?_)
          clear hK K hHeld hHeld2
          clear HC HR3 HR4
          obtain ⟨hHeld, tC, tR3, tR4⟩ := hT
          have HC := Lib.hid tC
          have HR3 := Lib.hid tR3
          have HR4 := Lib.hid tR4
          clear tC tR3 tR4
          refine only_ 7 rfl (by kernel_rfl) (by rfl) (fun K hK => ?_)
          refine wp_store_row rfl 27 _ _ rfl (W3.heap.size) 0 rfl (exL 28 0 ⟨#[]⟩ ⟨#[]⟩ 4 1 0 (some b) 1 cc) rfl (by kernel_rfl) zeroL (exL 28 0 ⟨#[]⟩ ⟨#[]⟩ 4 1 0 (some b) 1 cc) 27 HR4.out.2 (by show 0 + 8 ≤ 8; omega) (exL_one _ _ _ _ _ _ _ _ _ _) rfl ?_
          refine hK.out _ _ (setRow_below hHeld l4 _) (fun hHeld2 => ?_)
          try simp only [Act.put, List.setIfInBounds_toArray, List.set_cons_zero, List.set_cons_succ]
          refine any_letter (fun W => Below W0.heap.size W0 W ∧ CIn b W ∧ Own W2.heap.size (exL 0 0 ⟨#[]⟩ ⟨#[]⟩ (-16) 1 0 A 0 c) W ∧ Own W3.heap.size (exL 28 0 ⟨#[]⟩ ⟨#[]⟩ 4 1 0 (some b) 1 cc) W) ⟨hHeld2, HC.out.set nb4 _, HR3.out.other n34 _, HR4.out.set _⟩ (fun W6 hT => ?_)
          clear hK K hHeld hHeld2
          clear HC HR3 HR4
          obtain ⟨hHeld, tC, tR3, tR4⟩ := hT
          have HC := Lib.hid tC
          have HR3 := Lib.hid tR3
          have HR4 := Lib.hid tR4
          clear tC tR3 tR4
          refine wpAnyH_done (by kernel_rfl) ?_ _
          refine NoPanic.normal ?_
          refine hK2 _ _ (Met.intro (hJ _ _ ?_))
          (repeat apply Exists.intro)
          refine ⟨?rel, rfl⟩
          case rel => exact ⟨_, _, _, _, _, _, _, rfl, rfl, rfl, ⟨HK0.out.b1.under hHeld, HR3.out, HR4.out, HC.out, HK0.out.below.trans (hHeld.mono HK0.out.below.size)⟩⟩
        · go_simp
          have l4 : W0.heap.size ≤ W2.heap.size := hHeld.size
          have nb4 : b ≠ W2.heap.size := by
            have := HC.out.1
            omega
          refine hK.out _ _ (hHeld.alloc hHeld.size _) (fun hHeld2 => ?_)
          try simp only [Act.put, List.setIfInBounds_toArray, List.set_cons_zero, List.set_cons_succ]
          refine any_letter (fun W => Below W0.heap.size W0 W ∧ CIn b W ∧ Own W2.heap.size zeroL W) ⟨hHeld2, HC.out.under ((Below.refl _ _).alloc (Nat.le_refl _) _), Own.new _ _ _ rfl⟩ (fun W7 hT => ?_)
          clear hK K hHeld hHeld2
          clear HC
          obtain ⟨hHeld, tC, tR4⟩ := hT
          have HC := Lib.hid tC
          have HR4 := Lib.hid tR4
          clear tC tR4
          refine only_ 4 rfl (by kernel_rfl) (by rfl) (fun K hK => ?_)
          go_simp
          have l3 : W0.heap.size ≤ W7.heap.size := hHeld.size
          have nb3 : b ≠ W7.heap.size := by
            have := HC.out.1
            omega
          have n34 : W7.heap.size ≠ W2.heap.size := by
            have := HR4.out.1
            omega
          refine hK.out _ _ (hHeld.alloc hHeld.size _) (fun hHeld2 => ?_)
          try simp only [Act.put, List.setIfInBounds_toArray, List.set_cons_zero, List.set_cons_succ]
          refine any_letter (fun W => Below W0.heap.size W0 W ∧ CIn b W ∧ Own W7.heap.size zeroL W ∧ Own W2.heap.size zeroL W) ⟨hHeld2, HC.out.under ((Below.refl _ _).alloc (Nat.le_refl _) _), Own.new _ _ _ rfl, HR4.out.under ((Below.refl _ _).alloc (Nat.le_refl _) _)⟩ (fun W8 hT => ?_)
          clear hK K hHeld hHeld2
          clear HC HR4
          obtain ⟨hHeld, tC, tR3, tR4⟩ := hT
          have HC := Lib.hid tC
          have HR3 := Lib.hid tR3
          have HR4 := Lib.hid tR4
          clear tC tR3 tR4
          refine only_ 6 rfl (by kernel_rfl) (by rfl) (fun K hK => ?_)
          refine wp_store_row rfl 27 _ _ rfl (W7.heap.size) 0 rfl (exL 0 0 ⟨#[]⟩ ⟨#[]⟩ (-16) 1 0 A 0 c) rfl (by kernel_rfl) zeroL (exL 0 0 ⟨#[]⟩ ⟨#[]⟩ (-16) 1 0 A 0 c) 27 HR3.out.2 (by show 0 + 8 ≤ 8; omega) (exL_one _ _ _ _ _ _ _ _ _ _) rfl ?_
          refine hK.out _ _ (setRow_below hHeld l3 _) (fun hHeld2 => ?_)
          try simp only [Act.put, List.setIfInBounds_toArray, List.set_cons_zero, List.set_cons_succ]
          refine any_letter (fun W => Below W0.heap.size W0 W ∧ CIn b W ∧ Own W7.heap.size (exL 0 0 ⟨#[]⟩ ⟨#[]⟩ (-16) 1 0 A 0 c) W ∧ Own W2.heap.size zeroL W) ⟨hHeld2, HC.out.set nb3 _, HR3.out.set _, HR4.out.other (Ne.symm n34) _⟩ (fun W9 hT => ?_)
          clear hK K hHeld hHeld2
          clear HC HR3 HR4
          obtain ⟨hHeld, tC, tR3, tR4⟩ := hT
          have HC := Lib.hid tC
          have HR3 := Lib.hid tR3
          have HR4 := Lib.hid tR4
          clear tC tR3 tR4
          refine only_ 7 rfl (by kernel_rfl) (by rfl) (fun K hK => ?_)
          refine wp_store_row rfl 27 _ _ rfl (W2.heap.size) 0 rfl (exL 28 0 ⟨#[]⟩ ⟨#[]⟩ 4 1 0 (some b) 1 cc) rfl (by kernel_rfl) zeroL (exL 28 0 ⟨#[]⟩ ⟨#[]⟩ 4 1 0 (some b) 1 cc) 27 HR4.out.2 (by show 0 + 8 ≤ 8; omega) (exL_one _ _ _ _ _ _ _ _ _ _) rfl ?_
          refine hK.out _ _ (setRow_below hHeld l4 _) (fun hHeld2 => ?_)
          try simp only [Act.put, List.setIfInBounds_toArray, List.set_cons_zero, List.set_cons_succ]
          refine any_letter (fun W => Below W0.heap.size W0 W ∧ CIn b W ∧ Own W7.heap.size (exL 0 0 ⟨#[]⟩ ⟨#[]⟩ (-16) 1 0 A 0 c) W ∧ Own W2.heap.size (exL 28 0 ⟨#[]⟩ ⟨#[]⟩ 4 1 0 (some b) 1 cc) W) ⟨hHeld2, HC.out.set nb4 _, HR3.out.other n34 _, HR4.out.set _⟩ (fun W10 hT => ?_)
          clear hK K hHeld hHeld2
          clear HC HR3 HR4
          obtain ⟨hHeld, tC, tR3, tR4⟩ := hT
          have HC := Lib.hid tC
          have HR3 := Lib.hid tR3
          have HR4 := Lib.hid tR4
          clear tC tR3 tR4
          refine wpAnyH_done (by kernel_rfl) ?_ _
          refine NoPanic.normal ?_
          refine hK2 _ _ (Met.intro (hJ _ _ ?_))
          (repeat apply Exists.intro)
          refine ⟨?rel, rfl⟩
          case rel => exact ⟨_, _, _, _, _, _, _, rfl, rfl, rfl, ⟨HK0.out.b1.under hHeld, HR3.out, HR4.out, HC.out, HK0.out.below.trans (hHeld.mono HK0.out.below.size)⟩⟩
      · go_simp
        have l3 : W0.heap.size ≤ W1.heap.size := hHeld.size
        refine hK.out _ _ (hHeld.alloc hHeld.size _) (fun hHeld2 => ?_)
        try simp only [Act.put, List.setIfInBounds_toArray, List.set_cons_zero, List.set_cons_succ]
        refine any_letter (fun W => Below W0.heap.size W0 W ∧ Own W1.heap.size zeroL W) ⟨hHeld2, Own.new _ _ _ rfl⟩ (fun W11 hT => ?_)
        clear hK K hHeld hHeld2
        obtain ⟨hHeld, tR3⟩ := hT
        have HR3 := Lib.hid tR3
        clear tR3
        refine both_ 3 5 rfl rfl (by kernel_rfl) (by rfl) (by rfl) (fun K hK => ?_) (fun K hK => ?_)
        · go_simp
          refine (fold_any 28 0 ⟨#[]⟩ ⟨#[]⟩ 4 1 0 (some q2) 1 [subT] _ _ (HK0.out.b2.under hHeld).sl (fun _ h => h)).mono ?_
          rintro e wf hans
          obtain ⟨b, cc, rfl, hlb, hlt, hx0, hx4, hbf⟩ := CellAns.of hans
          clear hans
          have nb3 : b ≠ W1.heap.size := by
            have := HR3.out.1
            omega
          go_simp
          refine hK.out _ _ (hHeld.trans (hbf.mono hHeld.size)) (fun hHeld2 => ?_)
          try simp only [Act.put, List.setIfInBounds_toArray, List.set_cons_zero, List.set_cons_succ]
          refine any_letter (fun W => Below W0.heap.size W0 W ∧ CIn b W ∧ Own W1.heap.size zeroL W) ⟨hHeld2, ⟨hlt, hx0, hx4⟩, HR3.out.under hbf⟩ (fun W12 hT => ?_)
          clear hK K hHeld hHeld2
          clear HR3
          obtain ⟨hHeld, tC, tR3⟩ := hT
          have HC := Lib.hid tC
          have HR3 := Lib.hid tR3
          clear tC tR3
          refine only_ 5 rfl (by kernel_rfl) (by rfl) (fun K hK => ?_)
          go_simp
          have l4 : W0.heap.size ≤ W12.heap.size := hHeld.size
          have nb4 : b ≠ W12.heap.size := by
            have := HC.out.1
            omega
          have n34 : W1.heap.size ≠ W12.heap.size := by
            have := HR3.out.1
            omega
          refine hK.out _ _ (hHeld.alloc hHeld.size _) (fun hHeld2 => ?_)
          try simp only [Act.put, List.setIfInBounds_toArray, List.set_cons_zero, List.set_cons_succ]
          refine any_letter (fun W => Below W0.heap.size W0 W ∧ CIn b W ∧ Own W1.heap.size zeroL W ∧ Own W12.heap.size zeroL W) ⟨hHeld2, HC.out.under ((Below.refl _ _).alloc (Nat.le_refl _) _), HR3.out.under ((Below.refl _ _).alloc (Nat.le_refl _) _), Own.new _ _ _ rfl⟩ (fun W13 hT => ?_)
          clear hK K hHeld hHeld2
          clear HC HR3
          obtain ⟨hHeld, tC, tR3, tR4⟩ := hT
          have HC := Lib.hid tC
          have HR3 := Lib.hid tR3
          have HR4 := Lib.hid tR4
          clear tC tR3 tR4
          refine only_ 6 rfl (by kernel_rfl) (by rfl) (fun K hK => ?_)
          refine wp_store_row rfl 27 _ _ rfl (W1.heap.size) 0 rfl (exL 0 0 ⟨#[]⟩ ⟨#[]⟩ (-16) 1 0 A 0 c) rfl (by kernel_rfl) zeroL (exL 0 0 ⟨#[]⟩ ⟨#[]⟩ (-16) 1 0 A 0 c) 27 HR3.out.2 (by show 0 + 8 ≤ 8; omega) (exL_one _ _ _ _ _ _ _ _ _ _) rfl ?_
          refine hK.out _ _ (setRow_below hHeld l3 _) (fun hHeld2 => ?_)
          try simp only [Act.put, List.setIfInBounds_toArray, List.set_cons_zero, List.set_cons_succ]
          refine any_letter (fun W => Below W0.heap.size W0 W ∧ CIn b W ∧ Own W1.heap.size (exL 0 0 ⟨#[]⟩ ⟨#[]⟩ (-16) 1 0 A 0 c) W ∧ Own W12.heap.size zeroL W) ⟨hHeld2, HC.out.set nb3 _, HR3.out.set _, HR4.out.other (Ne.symm n34) _⟩ (fun W14 hT => ?_)
          clear hK K hHeld hHeld2
          clear HC HR3 HR4
          obtain ⟨hHeld, tC, tR3, tR4⟩ := hT
          have HC := Lib.hid tC
          have HR3 := Lib.hid tR3
          have HR4 := Lib.hid tR4
          clear tC tR3 tR4
          refine only_ 7 rfl (by kernel_rfl) (by rfl) (fun K hK => ?_)
          refine wp_store_row rfl 27 _ _ rfl (W12.heap.size) 0 rfl (exL 28 0 ⟨#[]⟩ ⟨#[]⟩ 4 1 0 (some b) 1 cc) rfl (by kernel_rfl) zeroL (exL 28 0 ⟨#[]⟩ ⟨#[]⟩ 4 1 0 (some b) 1 cc) 27 HR4.out.2 (by show 0 + 8 ≤ 8; omega) (exL_one _ _ _ _ _ _ _ _ _ _) rfl ?_
          refine hK.out _ _ (setRow_below hHeld l4 _) (fun hHeld2 => ?_)
          try simp only [Act.put, List.setIfInBounds_toArray, List.set_cons_zero, List.set_cons_succ]
          refine any_letter (fun W => Below W0.heap.size W0 W ∧ CIn b W ∧ Own W1.heap.size (exL 0 0 ⟨#[]⟩ ⟨#[]⟩ (-16) 1 0 A 0 c) W ∧ Own W12.heap.size (exL 28 0 ⟨#[]⟩ ⟨#[]⟩ 4 1 0 (some b) 1 cc) W) ⟨hHeld2, HC.out.set nb4 _, HR3.out.other n34 _, HR4.out.set _⟩ (fun W15 hT => ?_)
          clear hK K hHeld hHeld2
          clear HC HR3 HR4
          obtain ⟨hHeld, tC, tR3, tR4⟩ := hT
          have HC := Lib.hid tC
          have HR3 := Lib.hid tR3
          have HR4 := Lib.hid tR4
          clear tC tR3 tR4
          refine wpAnyH_done (by kernel_rfl) ?_ _
          refine NoPanic.normal ?_
          refine hK2 _ _ (Met.intro (hJ _ _ ?_))
          (repeat apply Exists.intro)
          refine ⟨?rel, rfl⟩
          case rel => exact ⟨_, _, _, _, _, _, _, rfl, rfl, rfl, ⟨HK0.out.b1.under hHeld, HR3.out, HR4.out, HC.out, HK0.out.below.trans (hHeld.mono HK0.out.below.size)⟩⟩
        · go_simp
          have l4 : W0.heap.size ≤ W11.heap.size := hHeld.size
          have n34 : W1.heap.size ≠ W11.heap.size := by
            have := HR3.out.1
            omega
          refine hK.out _ _ (hHeld.alloc hHeld.size _) (fun hHeld2 => ?_)
          try simp only [Act.put, List.setIfInBounds_toArray, List.set_cons_zero, List.set_cons_succ]
          refine any_letter (fun W => Below W0.heap.size W0 W ∧ Own W1.heap.size zeroL W ∧ Own W11.heap.size zeroL W) ⟨hHeld2, HR3.out.under ((Below.refl _ _).alloc (Nat.le_refl _) _), Own.new _ _ _ rfl⟩ (fun W16 hT => ?_)
          clear hK K hHeld hHeld2
          clear HR3
          obtain ⟨hHeld, tR3, tR4⟩ := hT
          have HR3 := Lib.hid tR3
          have HR4 := Lib.hid tR4
          clear tR3 tR4
          refine only_ 3 rfl (by kernel_rfl) (by rfl) (fun K hK => ?_)
          go_simp
          refine (fold_any 28 0 ⟨#[]⟩ ⟨#[]⟩ 4 1 0 (some q2) 1 [subT] _ _ (HK0.out.b2.under hHeld).sl (fun _ h => h)).mono ?_
          rintro e wf hans
          obtain ⟨b, cc, rfl, hlb, hlt, hx0, hx4, hbf⟩ := CellAns.of hans
          clear hans
          have nb3 : b ≠ W1.heap.size := by
            have := HR3.out.1
            omega
          have nb4 : b ≠ W11.heap.size := by
            have := HR4.out.1
            omega
          go_simp
          refine hK.out _ _ (hHeld.trans (hbf.mono hHeld.size)) (fun hHeld2 => ?_)
          try simp only [Act.put, List.setIfInBounds_toArray, List.set_cons_zero, List.set_cons_succ]
          refine any_letter (fun W => Below W0.heap.size W0 W ∧ CIn b W ∧ Own W1.heap.size zeroL W ∧ Own W11.heap.size zeroL W) ⟨hHeld2, ⟨hlt, hx0, hx4⟩, HR3.out.under hbf, HR4.out.under hbf⟩ (fun W17 hT => ?_)
          clear hK K hHeld hHeld2
          clear HR3 HR4
          obtain ⟨hHeld, tC, tR3, tR4⟩ := hT
          have HC := Lib.hid tC
          have HR3 := Lib.hid tR3
          have HR4 := Lib.hid tR4
          clear tC tR3 tR4
          refine only_ 6 rfl (by kernel_rfl) (by rfl) (fun K hK => ?_)
          refine wp_store_row rfl 27 _ _ rfl (W1.heap.size) 0 rfl (exL 0 0 ⟨#[]⟩ ⟨#[]⟩ (-16) 1 0 A 0 c) rfl (by kernel_rfl) zeroL (exL 0 0 ⟨#[]⟩ ⟨#[]⟩ (-16) 1 0 A 0 c) 27 HR3.out.2 (by show 0 + 8 ≤ 8; omega) (exL_one _ _ _ _ _ _ _ _ _ _) rfl ?_
          refine hK.out _ _ (setRow_below hHeld l3 _) (fun hHeld2 => ?_)
          try simp only [Act.put, List.setIfInBounds_toArray, List.set_cons_zero, List.set_cons_succ]
          refine any_letter (fun W => Below W0.heap.size W0 W ∧ CIn b W ∧ Own W1.heap.size (exL 0 0 ⟨#[]⟩ ⟨#[]⟩ (-16) 1 0 A 0 c) W ∧ Own W11.heap.size zeroL W) ⟨hHeld2, HC.out.set nb3 _, HR3.out.set _, HR4.out.other (Ne.symm n34) _⟩ (fun W18 hT => ?_)
          clear hK K hHeld hHeld2
          clear HC HR3 HR4
          obtain ⟨hHeld, tC, tR3, tR4⟩ := hT
          have HC := Lib.hid tC
          have HR3 := Lib.hid tR3
          have HR4 := Lib.hid tR4
          clear tC tR3 tR4
          refine only_ 7 rfl (by kernel_rfl) (by rfl) (fun K hK => ?_)
          refine wp_store_row rfl 27 _ _ rfl (W11.heap.size) 0 rfl (exL 28 0 ⟨#[]⟩ ⟨#[]⟩ 4 1 0 (some b) 1 cc) rfl (by kernel_rfl) zeroL (exL 28 0 ⟨#[]⟩ ⟨#[]⟩ 4 1 0 (some b) 1 cc) 27 HR4.out.2 (by show 0 + 8 ≤ 8; omega) (exL_one _ _ _ _ _ _ _ _ _ _) rfl ?_
          refine hK.out _ _ (setRow_below hHeld l4 _) (fun hHeld2 => ?_)
          try simp only [Act.put, List.setIfInBounds_toArray, List.set_cons_zero, List.set_cons_succ]
          refine any_letter (fun W => Below W0.heap.size W0 W ∧ CIn b W ∧ Own W1.heap.size (exL 0 0 ⟨#[]⟩ ⟨#[]⟩ (-16) 1 0 A 0 c) W ∧ Own W11.heap.size (exL 28 0 ⟨#[]⟩ ⟨#[]⟩ 4 1 0 (some b) 1 cc) W) ⟨hHeld2, HC.out.set nb4 _, HR3.out.other n34 _, HR4.out.set _⟩ (fun W19 hT => ?_)
          clear hK K hHeld hHeld2
          clear HC HR3 HR4
          obtain ⟨hHeld, tC, tR3, tR4⟩ := hT
          have HC := Lib.hid tC
          have HR3 := Lib.hid tR3
          have HR4 := Lib.hid tR4
          clear tC tR3 tR4
          refine wpAnyH_done (by kernel_rfl) ?_ _
          refine NoPanic.normal ?_
          refine hK2 _ _ (Met.intro (hJ _ _ ?_))
          (repeat apply Exists.intro)
          refine ⟨?rel, rfl⟩
          case rel => exact ⟨_, _, _, _, _, _, _, rfl, rfl, rfl, ⟨HK0.out.b1.under hHeld, HR3.out, HR4.out, HC.out, HK0.out.below.trans (hHeld.mono HK0.out.below.size)⟩⟩
      · go_simp
        have l4 : W0.heap.size ≤ W1.heap.size := hHeld.size
        refine hK.out _ _ (hHeld.alloc hHeld.size _) (fun hHeld2 => ?_)
        try simp only [Act.put, List.setIfInBounds_toArray, List.set_cons_zero, List.set_cons_succ]
        refine any_letter (fun W => Below W0.heap.size W0 W ∧ Own W1.heap.size zeroL W) ⟨hHeld2, Own.new _ _ _ rfl⟩ (fun W20 hT => ?_)
        clear hK K hHeld hHeld2
        obtain ⟨hHeld, tR4⟩ := hT
        have HR4 := Lib.hid tR4
        clear tR4
        refine both_ 3 4 rfl rfl (by kernel_rfl) (by rfl) (by rfl) (fun K hK => ?_) (fun K hK => ?_)
        · go_simp
          refine (fold_any 28 0 ⟨#[]⟩ ⟨#[]⟩ 4 1 0 (some q2) 1 [subT] _ _ (HK0.out.b2.under hHeld).sl (fun _ h => h)).mono ?_
          rintro e wf hans
          obtain ⟨b, cc, rfl, hlb, hlt, hx0, hx4, hbf⟩ := CellAns.of hans
          clear hans
          have nb4 : b ≠ W1.heap.size := by
            have := HR4.out.1
            omega
          go_simp
          refine hK.out _ _ (hHeld.trans (hbf.mono hHeld.size)) (fun hHeld2 => ?_)
          try simp only [Act.put, List.setIfInBounds_toArray, List.set_cons_zero, List.set_cons_succ]
          refine any_letter (fun W => Below W0.heap.size W0 W ∧ CIn b W ∧ Own W1.heap.size zeroL W) ⟨hHeld2, ⟨hlt, hx0, hx4⟩, HR4.out.under hbf⟩ (fun W21 hT => ?_)
          clear hK K hHeld hHeld2
          clear HR4
          obtain ⟨hHeld, tC, tR4⟩ := hT
          have HC := Lib.hid tC
          have HR4 := Lib.hid tR4
          clear tC tR4
          refine only_ 4 rfl (by kernel_rfl) (by rfl) (fun K hK => ?_)
          go_simp
          have l3 : W0.heap.size ≤ W21.heap.size := hHeld.size
          have nb3 : b ≠ W21.heap.size := by
            have := HC.out.1
            omega
          have n34 : W21.heap.size ≠ W1.heap.size := by
            have := HR4.out.1
            omega
          refine hK.out _ _ (hHeld.alloc hHeld.size _) (fun hHeld2 => ?_)
          try simp only [Act.put, List.setIfInBounds_toArray, List.set_cons_zero, List.set_cons_succ]
          refine any_letter (fun W => Below W0.heap.size W0 W ∧ CIn b W ∧ Own W21.heap.size zeroL W ∧ Own W1.heap.size zeroL W) ⟨hHeld2, HC.out.under ((Below.refl _ _).alloc (Nat.le_refl _) _), Own.new _ _ _ rfl, HR4.out.under ((Below.refl _ _).alloc (Nat.le_refl _) _)⟩ (fun W22 hT => ?_)
          clear hK K hHeld hHeld2
          clear HC HR4
          obtain ⟨hHeld, tC, tR3, tR4⟩ := hT
          have HC := Lib.hid tC
          have HR3 := Lib.hid tR3
          have HR4 := Lib.hid tR4
          clear tC tR3 tR4
          refine only_ 6 rfl (by kernel_rfl) (by rfl) (fun K hK => ?_)
          refine wp_store_row rfl 27 _ _ rfl (W21.heap.size) 0 rfl (exL 0 0 ⟨#[]⟩ ⟨#[]⟩ (-16) 1 0 A 0 c) rfl (by kernel_rfl) zeroL (exL 0 0 ⟨#[]⟩ ⟨#[]⟩ (-16) 1 0 A 0 c) 27 HR3.out.2 (by show 0 + 8 ≤ 8; omega) (exL_one _ _ _ _ _ _ _ _ _ _) rfl ?_
          refine hK.out _ _ (setRow_below hHeld l3 _) (fun hHeld2 => ?_)
          try simp only [Act.put, List.setIfInBounds_toArray, List.set_cons_zero, List.set_cons_succ]
          refine any_letter (fun W => Below W0.heap.size W0 W ∧ CIn b W ∧ Own W21.heap.size (exL 0 0 ⟨#[]⟩ ⟨#[]⟩ (-16) 1 0 A 0 c) W ∧ Own W1.heap.size zeroL W) ⟨hHeld2, HC.out.set nb3 _, HR3.out.set _, HR4.out.other (Ne.symm n34) _⟩ (fun W23 hT => ?_)
          clear hK K hHeld hHeld2
          clear HC HR3 HR4
          obtain ⟨hHeld, tC, tR3, tR4⟩ := hT
          have HC := Lib.hid tC
          have HR3 := Lib.hid tR3
          have HR4 := Lib.hid tR4
          clear tC tR3 tR4
          refine only_ 7 rfl (by kernel_rfl) (by rfl) (fun K hK => ?_)
          refine wp_store_row rfl 27 _ _ rfl (W1.heap.size) 0 rfl (exL 28 0 ⟨#[]⟩ ⟨#[]⟩ 4 1 0 (some b) 1 cc) rfl (by kernel_rfl) zeroL (exL 28 0 ⟨#[]⟩ ⟨#[]⟩ 4 1 0 (some b) 1 cc) 27 HR4.out.2 (by show 0 + 8 ≤ 8; omega) (exL_one _ _ _ _ _ _ _ _ _ _) rfl ?_
          refine hK.out _ _ (setRow_below hHeld l4 _) (fun hHeld2 => ?_)
          try simp only [Act.put, List.setIfInBounds_toArray, List.set_cons_zero, List.set_cons_succ]
          refine any_letter (fun W => Below W0.heap.size W0 W ∧ CIn b W ∧ Own W21.heap.size (exL 0 0 ⟨#[]⟩ ⟨#[]⟩ (-16) 1 0 A 0 c) W ∧ Own W1.heap.size (exL 28 0 ⟨#[]⟩ ⟨#[]⟩ 4 1 0 (some b) 1 cc) W) ⟨hHeld2, HC.out.set nb4 _, HR3.out.other n34 _, HR4.out.set _⟩ (fun W24 hT => ?_)
          clear hK K hHeld hHeld2
          clear HC HR3 HR4
          obtain ⟨hHeld, tC, tR3, tR4⟩ := hT
          have HC := Lib.hid tC
          have HR3 := Lib.hid tR3
          have HR4 := Lib.hid tR4
          clear tC tR3 tR4
          refine wpAnyH_done (by kernel_rfl) ?_ _
          refine NoPanic.normal ?_
          refine hK2 _ _ (Met.intro (hJ _ _ ?_))
          (repeat apply Exists.intro)
          refine ⟨?rel, rfl⟩
          case rel => exact ⟨_, _, _, _, _, _, _, rfl, rfl, rfl, ⟨HK0.out.b1.under hHeld, HR3.out, HR4.out, HC.out, HK0.out.below.trans (hHeld.mono HK0.out.below.size)⟩⟩
        · go_simp
          have l3 : W0.heap.size ≤ W20.heap.size := hHeld.size
          have n34 : W20.heap.size ≠ W1.heap.size := by
            have := HR4.out.1
            omega
          refine hK.out _ _ (hHeld.alloc hHeld.size _) (fun hHeld2 => ?_)
          try simp only [Act.put, List.setIfInBounds_toArray, List.set_cons_zero, List.set_cons_succ]
          refine any_letter (fun W => Below W0.heap.size W0 W ∧ Own W20.heap.size zeroL W ∧ Own W1.heap.size zeroL W) ⟨hHeld2, Own.new _ _ _ rfl, HR4.out.under ((Below.refl _ _).alloc (Nat.le_refl _) _)⟩ (fun W25 hT => ?_)
          clear hK K hHeld hHeld2
          clear HR4
          obtain ⟨hHeld, tR3, tR4⟩ := hT
          have HR3 := Lib.hid tR3
          have HR4 := Lib.hid tR4
          clear tR3 tR4
          refine only_ 3 rfl (by kernel_rfl) (by rfl) (fun K hK => ?_)
          go_simp
          refine (fold_any 28 0 ⟨#[]⟩ ⟨#[]⟩ 4 1 0 (some q2) 1 [subT] _ _ (HK0.out.b2.under hHeld).sl (fun _ h => h)).mono ?_
          rintro e wf hans
          obtain ⟨b, cc, rfl, hlb, hlt, hx0, hx4, hbf⟩ := CellAns.of hans
          clear hans
          have nb3 : b ≠ W20.heap.size := by
            have := HR3.out.1
            omega
          have nb4 : b ≠ W1.heap.size := by
            have := HR4.out.1
            omega
          go_simp
          refine hK.out _ _ (hHeld.trans (hbf.mono hHeld.size)) (fun hHeld2 => ?_)
          try simp only [Act.put, List.setIfInBounds_toArray, List.set_cons_zero, List.set_cons_succ]
          refine any_letter (fun W => Below W0.heap.size W0 W ∧ CIn b W ∧ Own W20.heap.size zeroL W ∧ Own W1.heap.size zeroL W) ⟨hHeld2, ⟨hlt, hx0, hx4⟩, HR3.out.under hbf, HR4.out.under hbf⟩ (fun W26 hT => ?_)
          clear hK K hHeld hHeld2
          clear HR3 HR4
          obtain ⟨hHeld, tC, tR3, tR4⟩ := hT
          have HC := Lib.hid tC
          have HR3 := Lib.hid tR3
          have HR4 := Lib.hid tR4
          clear tC tR3 tR4
          refine only_ 6 rfl (by kernel_rfl) (by rfl) (fun K hK => ?_)
          refine wp_store_row rfl 27 _ _ rfl (W20.heap.size) 0 rfl (exL 0 0 ⟨#[]⟩ ⟨#[]⟩ (-16) 1 0 A 0 c) rfl (by kernel_rfl) zeroL (exL 0 0 ⟨#[]⟩ ⟨#[]⟩ (-16) 1 0 A 0 c) 27 HR3.out.2 (by show 0 + 8 ≤ 8; omega) (exL_one _ _ _ _ _ _ _ _ _ _) rfl ?_
          refine hK.out _ _ (setRow_below hHeld l3 _) (fun hHeld2 => ?_)
          try simp only [Act.put, List.setIfInBounds_toArray, List.set_cons_zero, List.set_cons_succ]
          refine any_letter (fun W => Below W0.heap.size W0 W ∧ CIn b W ∧ Own W20.heap.size (exL 0 0 ⟨#[]⟩ ⟨#[]⟩ (-16) 1 0 A 0 c) W ∧ Own W1.heap.size zeroL W) ⟨hHeld2, HC.out.set nb3 _, HR3.out.set _, HR4.out.other (Ne.symm n34) _⟩ (fun W27 hT => ?_)
          clear hK K hHeld hHeld2
          clear HC HR3 HR4
          obtain ⟨hHeld, tC, tR3, tR4⟩ := hT
          have HC := Lib.hid tC
          have HR3 := Lib.hid tR3
          have HR4 := Lib.hid tR4
          clear tC tR3 tR4
          refine only_ 7 rfl (by kernel_rfl) (by rfl) (fun K hK => ?_)
          refine wp_store_row rfl 27 _ _ rfl (W1.heap.size) 0 rfl (exL 28 0 ⟨#[]⟩ ⟨#[]⟩ 4 1 0 (some b) 1 cc) rfl (by kernel_rfl) zeroL (exL 28 0 ⟨#[]⟩ ⟨#[]⟩ 4 1 0 (some b) 1 cc) 27 HR4.out.2 (by show 0 + 8 ≤ 8; omega) (exL_one _ _ _ _ _ _ _ _ _ _) rfl ?_
          refine hK.out _ _ (setRow_below hHeld l4 _) (fun hHeld2 => ?_)
          try simp only [Act.put, List.setIfInBounds_toArray, List.set_cons_zero, List.set_cons_succ]
          refine any_letter (fun W => Below W0.heap.size W0 W ∧ CIn b W ∧ Own W20.heap.size (exL 0 0 ⟨#[]⟩ ⟨#[]⟩ (-16) 1 0 A 0 c) W ∧ Own W1.heap.size (exL 28 0 ⟨#[]⟩ ⟨#[]⟩ 4 1 0 (some b) 1 cc) W) ⟨hHeld2, HC.out.set nb4 _, HR3.out.other n34 _, HR4.out.set _⟩ (fun W28 hT => ?_)
          clear hK K hHeld hHeld2
          clear HC HR3 HR4
          obtain ⟨hHeld, tC, tR3, tR4⟩ := hT
          have HC := Lib.hid tC
          have HR3 := Lib.hid tR3
          have HR4 := Lib.hid tR4
          clear tC tR3 tR4
          refine wpAnyH_done (by kernel_rfl) ?_ _
          refine NoPanic.normal ?_
          refine hK2 _ _ (Met.intro (hJ _ _ ?_))
          (repeat apply Exists.intro)
          refine ⟨?rel, rfl⟩
          case rel => exact ⟨_, _, _, _, _, _, _, rfl, rfl, rfl, ⟨HK0.out.b1.under hHeld, HR3.out, HR4.out, HC.out, HK0.out.below.trans (hHeld.mono HK0.out.below.size)⟩⟩
    · go_simp
      have l3 : W0.heap.size ≤ Wa.heap.size := hHeld.size
      refine hK.out _ _ (hHeld.alloc hHeld.size _) (fun hHeld2 => ?_)
      try simp only [Act.put, List.setIfInBounds_toArray, List.set_cons_zero, List.set_cons_succ]
      refine any_letter (fun W => Below W0.heap.size W0 W ∧ Own Wa.heap.size zeroL W) ⟨hHeld2, Own.new _ _ _ rfl⟩ (fun W29 hT => ?_)
      clear hK K hHeld hHeld2
      obtain ⟨hHeld, tR3⟩ := hT
      have HR3 := Lib.hid tR3
      clear tR3
      refine both_ 1 5 rfl rfl (by kernel_rfl) (by rfl) (by rfl) (fun K hK => ?_) (fun K hK => ?_)
      · go_simp
        refine (fold_any 7 0 ⟨#[]⟩ ⟨#[]⟩ 0 1 0 (some q1) 1 [shlT] _ _ (HK0.out.b1.under hHeld).sl (fun _ h => h)).mono ?_
        rintro e wf hans
        obtain ⟨A, c, rfl, hbf⟩ := DeepAns.of hans
        clear hans
        go_simp
        refine hK.out _ _ (hHeld.trans (hbf.mono hHeld.size)) (fun hHeld2 => ?_)
        try simp only [Act.put, List.setIfInBounds_toArray, List.set_cons_zero, List.set_cons_succ]
        refine any_letter (fun W => Below W0.heap.size W0 W ∧ Own Wa.heap.size zeroL W) ⟨hHeld2, HR3.out.under hbf⟩ (fun W30 hT => ?_)
        clear hK K hHeld hHeld2
        clear HR3
        obtain ⟨hHeld, tR3⟩ := hT
        have HR3 := Lib.hid tR3
        clear tR3
        refine both_ 3 5 rfl rfl (by kernel_rfl) (by rfl) (by rfl) (fun K hK => ?_) (fun K hK => ?_)
        · go_simp
          refine (fold_any 28 0 ⟨#[]⟩ ⟨#[]⟩ 4 1 0 (some q2) 1 [subT] _ _ (HK0.out.b2.under hHeld).sl (fun _ h => h)).mono ?_
          rintro e wf hans
          obtain ⟨b, cc, rfl, hlb, hlt, hx0, hx4, hbf⟩ := CellAns.of hans
          clear hans
          have nb3 : b ≠ Wa.heap.size := by
            have := HR3.out.1
            omega
          go_simp
          refine hK.out _ _ (hHeld.trans (hbf.mono hHeld.size)) (fun hHeld2 => ?_)
          try simp only [Act.put, List.setIfInBounds_toArray, List.set_cons_zero, List.set_cons_succ]
          refine any_letter (fun W => Below W0.heap.size W0 W ∧ CIn b W ∧ Own Wa.heap.size zeroL W) ⟨hHeld2, ⟨hlt, hx0, hx4⟩, HR3.out.under hbf⟩ (fun W31 hT => ?_)
          clear hK K hHeld hHeld2
          clear HR3
          obtain ⟨hHeld, tC, tR3⟩ := hT
          have HC := Lib.hid tC
          have HR3 := Lib.hid tR3
          clear tC tR3
          refine only_ 5 rfl (by kernel_rfl) (by rfl) (fun K hK => ?_)
          go_simp
          have l4 : W0.heap.size ≤ W31.heap.size := hHeld.size
          have nb4 : b ≠ W31.heap.size := by
            have := HC.out.1
            omega
          have n34 : Wa.heap.size ≠ W31.heap.size := by
            have := HR3.out.1
            omega
          refine hK.out _ _ (hHeld.alloc hHeld.size _) (fun hHeld2 => ?_)
          try simp only [Act.put, List.setIfInBounds_toArray, List.set_cons_zero, List.set_cons_succ]
          refine any_letter (fun W => Below W0.heap.size W0 W ∧ CIn b W ∧ Own Wa.heap.size zeroL W ∧ Own W31.heap.size zeroL W) ⟨hHeld2, HC.out.under ((Below.refl _ _).alloc (Nat.le_refl _) _), HR3.out.under ((Below.refl _ _).alloc (Nat.le_refl _) _), Own.new _ _ _ rfl⟩ (fun W32 hT => ?_)
          clear hK K hHeld hHeld2
          clear HC HR3
          obtain ⟨hHeld, tC, tR3, tR4⟩ := hT
          have HC := Lib.hid tC
          have HR3 := Lib.hid tR3
          have HR4 := Lib.hid tR4
          clear tC tR3 tR4
          refine only_ 6 rfl (by kernel_rfl) (by rfl) (fun K hK => ?_)
          refine wp_store_row rfl 27 _ _ rfl (Wa.heap.size) 0 rfl (exL 0 0 ⟨#[]⟩ ⟨#[]⟩ (-16) 1 0 A 0 c) rfl (by kernel_rfl) zeroL (exL 0 0 ⟨#[]⟩ ⟨#[]⟩ (-16) 1 0 A 0 c) 27 HR3.out.2 (by show 0 + 8 ≤ 8; omega) (exL_one _ _ _ _ _ _ _ _ _ _) rfl ?_
          refine hK.out _ _ (setRow_below hHeld l3 _) (fun hHeld2 => ?_)
          try simp only [Act.put, List.setIfInBounds_toArray, List.set_cons_zero, List.set_cons_succ]
          refine any_letter (fun W => Below W0.heap.size W0 W ∧ CIn b W ∧ Own Wa.heap.size (exL 0 0 ⟨#[]⟩ ⟨#[]⟩ (-16) 1 0 A 0 c) W ∧ Own W31.heap.size zeroL W) ⟨hHeld2, HC.out.set nb3 _, HR3.out.set _, HR4.out.other (Ne.symm n34) _⟩ (fun W33 hT => ?_)
          clear hK K hHeld hHeld2
          clear HC HR3 HR4
          obtain ⟨hHeld, tC, tR3, tR4⟩ := hT
          have HC := Lib.hid tC
          have HR3 := Lib.hid tR3
          have HR4 := Lib.hid tR4
          clear tC tR3 tR4
          refine only_ 7 rfl (by kernel_rfl) (by rfl) (fun K hK => ?_)
          refine wp_store_row rfl 27 _ _ rfl (W31.heap.size) 0 rfl (exL 28 0 ⟨#[]⟩ ⟨#[]⟩ 4 1 0 (some b) 1 cc) rfl (by kernel_rfl) zeroL (exL 28 0 ⟨#[]⟩ ⟨#[]⟩ 4 1 0 (some b) 1 cc) 27 HR4.out.2 (by show 0 + 8 ≤ 8; omega) (exL_one _ _ _ _ _ _ _ _ _ _) rfl ?_
          refine hK.out _ _ (setRow_below hHeld l4 _) (fun hHeld2 => ?_)
          try simp only [Act.put, List.setIfInBounds_toArray, List.set_cons_zero, List.set_cons_succ]
          refine any_letter (fun W => Below W0.heap.size W0 W ∧ CIn b W ∧ Own Wa.heap.size (exL 0 0 ⟨#[]⟩ ⟨#[]⟩ (-16) 1 0 A 0 c) W ∧ Own W31.heap.size (exL 28 0 ⟨#[]⟩ ⟨#[]⟩ 4 1 0 (some b) 1 cc) W) ⟨hHeld2, HC.out.set nb4 _, HR3.out.other n34 _, HR4.out.set _⟩ (fun W34 hT => ?_)
          clear hK K hHeld hHeld2
          clear HC HR3 HR4
          obtain ⟨hHeld, tC, tR3, tR4⟩ := hT
          have HC := Lib.hid tC
          have HR3 := Lib.hid tR3
          have HR4 := Lib.hid tR4
          clear tC tR3 tR4
          refine wpAnyH_done (by kernel_rfl) ?_ _
          refine NoPanic.normal ?_
          refine hK2 _ _ (Met.intro (hJ _ _ ?_))
          (repeat apply Exists.intro)
          refine ⟨?rel, rfl⟩
          case rel => exact ⟨_, _, _, _, _, _, _, rfl, rfl, rfl, ⟨HK0.out.b1.under hHeld, HR3.out, HR4.out, HC.out, HK0.out.below.trans (hHeld.mono HK0.out.below.size)⟩⟩
        · go_simp
          have l4 : W0.heap.size ≤ W30.heap.size := hHeld.size
          have n34 : Wa.heap.size ≠ W30.heap.size := by
            have := HR3.out.1
            omega
          refine hK.out _ _ (hHeld.alloc hHeld.size _) (fun hHeld2 => ?_)
          try simp only [Act.put, List.setIfInBounds_toArray, List.set_cons_zero, List.set_cons_succ]
          refine any_letter (fun W => Below W0.heap.size W0 W ∧ Own Wa.heap.size zeroL W ∧ Own W30.heap.size zeroL W) ⟨hHeld2, HR3.out.under ((Below.refl _ _).alloc (Nat.le_refl _) _), Own.new _ _ _ rfl⟩ (fun W35 hT => ?_)
          clear hK K hHeld hHeld2
          clear HR3
          obtain ⟨hHeld, tR3, tR4⟩ := hT
          have HR3 := Lib.hid tR3
          have HR4 := Lib.hid tR4
          clear tR3 tR4
          refine only_ 3 rfl (by kernel_rfl) (by rfl) (fun K hK => ?_)
          go_simp
          refine (fold_any 28 0 ⟨#[]⟩ ⟨#[]⟩ 4 1 0 (some q2) 1 [subT] _ _ (HK0.out.b2.under hHeld).sl (fun _ h => h)).mono ?_
          rintro e wf hans
          obtain ⟨b, cc, rfl, hlb, hlt, hx0, hx4, hbf⟩ := CellAns.of hans
          clear hans
          have nb3 : b ≠ Wa.heap.size := by
            have := HR3.out.1
            omega
          have nb4 : b ≠ W30.heap.size := by
            have := HR4.out.1
            omega
          go_simp
          refine hK.out _ _ (hHeld.trans (hbf.mono hHeld.size)) (fun hHeld2 => ?_)
          try simp only [Act.put, List.setIfInBounds_toArray, List.set_cons_zero, List.set_cons_succ]
          refine any_letter (fun W => Below W0.heap.size W0 W ∧ CIn b W ∧ Own Wa.heap.size zeroL W ∧ Own W30.heap.size zeroL W) ⟨hHeld2, ⟨hlt, hx0, hx4⟩, HR3.out.under hbf, HR4.out.under hbf⟩ (fun W36 hT => ?_)
          clear hK K hHeld hHeld2
          clear HR3 HR4
          obtain ⟨hHeld, tC, tR3, tR4⟩ := hT
          have HC := Lib.hid tC
          have HR3 := Lib.hid tR3
          have HR4 := Lib.hid tR4
          clear tC tR3 tR4
          refine only_ 6 rfl (by kernel_rfl) (by rfl) (fun K hK => ?_)
          refine wp_store_row rfl 27 _ _ rfl (Wa.heap.size) 0 rfl (exL 0 0 ⟨#[]⟩ ⟨#[]⟩ (-16) 1 0 A 0 c) rfl (by kernel_rfl) zeroL (exL 0 0 ⟨#[]⟩ ⟨#[]⟩ (-16) 1 0 A 0 c) 27 HR3.out.2 (by show 0 + 8 ≤ 8; omega) (exL_one _ _ _ _ _ _ _ _ _ _) rfl ?_
          refine hK.out _ _ (setRow_below hHeld l3 _) (fun hHeld2 => ?_)
          try simp only [Act.put, List.setIfInBounds_toArray, List.set_cons_zero, List.set_cons_succ]
          refine any_letter (fun W => Below W0.heap.size W0 W ∧ CIn b W ∧ Own Wa.heap.size (exL 0 0 ⟨#[]⟩ ⟨#[]⟩ (-16) 1 0 A 0 c) W ∧ Own W30.heap.size zeroL W) ⟨hHeld2, HC.out.set nb3 _, HR3.out.set _, HR4.out.other (Ne.symm n34) _⟩ (fun W37 hT => ?_)
          clear hK K hHeld hHeld2
          clear HC HR3 HR4
          obtain ⟨hHeld, tC, tR3, tR4⟩ := hT
          have HC := Lib.hid tC
          have HR3 := Lib.hid tR3
          have HR4 := Lib.hid tR4
          clear tC tR3 tR4
          refine only_ 7 rfl (by kernel_rfl) (by rfl) (fun K hK => ?_)
          refine wp_store_row rfl 27 _ _ rfl (W30.heap.size) 0 rfl (exL 28 0 ⟨#[]⟩ ⟨#[]⟩ 4 1 0 (some b) 1 cc) rfl (by kernel_rfl) zeroL (exL 28 0 ⟨#[]⟩ ⟨#[]⟩ 4 1 0 (some b) 1 cc) 27 HR4.out.2 (by show 0 + 8 ≤ 8; omega) (exL_one _ _ _ _ _ _ _ _ _ _) rfl ?_
          refine hK.out _ _ (setRow_below hHeld l4 _) (fun hHeld2 => ?_)
          try simp only [Act.put, List.setIfInBounds_toArray, List.set_cons_zero, List.set_cons_succ]
          refine any_letter (fun W => Below W0.heap.size W0 W ∧ CIn b W ∧ Own Wa.heap.size (exL 0 0 ⟨#[]⟩ ⟨#[]⟩ (-16) 1 0 A 0 c) W ∧ Own W30.heap.size (exL 28 0 ⟨#[]⟩ ⟨#[]⟩ 4 1 0 (some b) 1 cc) W) ⟨hHeld2, HC.out.set nb4 _, HR3.out.other n34 _, HR4.out.set _⟩ (fun W38 hT => ?_)
          clear hK K hHeld hHeld2
          clear HC HR3 HR4
          obtain ⟨hHeld, tC, tR3, tR4⟩ := hT
          have HC := Lib.hid tC
          have HR3 := Lib.hid tR3
          have HR4 := Lib.hid tR4
          clear tC tR3 tR4
          refine wpAnyH_done (by kernel_rfl) ?_ _
          refine NoPanic.normal ?_
          refine hK2 _ _ (Met.intro (hJ _ _ ?_))
          (repeat apply Exists.intro)
          refine ⟨?rel, rfl⟩
          case rel => exact ⟨_, _, _, _, _, _, _, rfl, rfl, rfl, ⟨HK0.out.b1.under hHeld, HR3.out, HR4.out, HC.out, HK0.out.below.trans (hHeld.mono HK0.out.below.size)⟩⟩
      · go_simp
        have l4 : W0.heap.size ≤ W29.heap.size := hHeld.size
        have n34 : Wa.heap.size ≠ W29.heap.size := by
          have := HR3.out.1
          omega
        refine hK.out _ _ (hHeld.alloc hHeld.size _) (fun hHeld2 => ?_)
        try simp only [Act.put, List.setIfInBounds_toArray, List.set_cons_zero, List.set_cons_succ]
        refine any_letter (fun W => Below W0.heap.size W0 W ∧ Own Wa.heap.size zeroL W ∧ Own W29.heap.size zeroL W) ⟨hHeld2, HR3.out.under ((Below.refl _ _).alloc (Nat.le_refl _) _), Own.new _ _ _ rfl⟩ (fun W39 hT => ?_)
        clear hK K hHeld hHeld2
        clear HR3
        obtain ⟨hHeld, tR3, tR4⟩ := hT
        have HR3 := Lib.hid tR3
        have HR4 := Lib.hid tR4
        clear tR3 tR4
        refine only_ 1 rfl (by kernel_rfl) (by rfl) (fun K hK => ?_)
        go_simp
        refine (fold_any 7 0 ⟨#[]⟩ ⟨#[]⟩ 0 1 0 (some q1) 1 [shlT] _ _ (HK0.out.b1.under hHeld).sl (fun _ h => h)).mono ?_
        rintro e wf hans
        obtain ⟨A, c, rfl, hbf⟩ := DeepAns.of hans
        clear hans
        go_simp
        refine hK.out _ _ (hHeld.trans (hbf.mono hHeld.size)) (fun hHeld2 => ?_)
        try simp only [Act.put, List.setIfInBounds_toArray, List.set_cons_zero, List.set_cons_succ]
        refine any_letter (fun W => Below W0.heap.size W0 W ∧ Own Wa.heap.size zeroL W ∧ Own W29.heap.size zeroL W) ⟨hHeld2, HR3.out.under hbf, HR4.out.under hbf⟩ (fun W40 hT => ?_)
        clear hK K hHeld hHeld2
        clear HR3 HR4
        obtain ⟨hHeld, tR3, tR4⟩ := hT
        have HR3 := Lib.hid tR3
        have HR4 := Lib.hid tR4
        clear tR3 tR4
        refine only_ 3 rfl (by kernel_rfl) (by rfl) (fun K hK => ?_)
        go_simp
        refine (fold_any 28 0 ⟨#[]⟩ ⟨#[]⟩ 4 1 0 (some q2) 1 [subT] _ _ (HK0.out.b2.under hHeld).sl (fun _ h => h)).mono ?_
        rintro e wf hans
        obtain ⟨b, cc, rfl, hlb, hlt, hx0, hx4, hbf⟩ := CellAns.of hans
        clear hans
        have nb3 : b ≠ Wa.heap.size := by
          have := HR3.out.1
          omega
        have nb4 : b ≠ W29.heap.size := by
          have := HR4.out.1
          omega
        go_simp
        refine hK.out _ _ (hHeld.trans (hbf.mono hHeld.size)) (fun hHeld2 => ?_)
        try simp only [Act.put, List.setIfInBounds_toArray, List.set_cons_zero, List.set_cons_succ]
        refine any_letter (fun W => Below W0.heap.size W0 W ∧ CIn b W ∧ Own Wa.heap.size zeroL W ∧ Own W29.heap.size zeroL W) ⟨hHeld2, ⟨hlt, hx0, hx4⟩, HR3.out.under hbf, HR4.out.under hbf⟩ (fun W41 hT => ?_)
        clear hK K hHeld hHeld2
        clear HR3 HR4
        obtain ⟨hHeld, tC, tR3, tR4⟩ := hT
        have HC := Lib.hid tC
        have HR3 := Lib.hid tR3
        have HR4 := Lib.hid tR4
        clear tC tR3 tR4
        refine only_ 6 rfl (by kernel_rfl) (by rfl) (fun K hK => ?_)
        refine wp_store_row rfl 27 _ _ rfl (Wa.heap.size) 0 rfl (exL 0 0 ⟨#[]⟩ ⟨#[]⟩ (-16) 1 0 A 0 c) rfl (by kernel_rfl) zeroL (exL 0 0 ⟨#[]⟩ ⟨#[]⟩ (-16) 1 0 A 0 c) 27 HR3.out.2 (by show 0 + 8 ≤ 8; omega) (exL_one _ _ _ _ _ _ _ _ _ _) rfl ?_
        refine hK.out _ _ (setRow_below hHeld l3 _) (fun hHeld2 => ?_)
        try simp only [Act.put, List.setIfInBounds_toArray, List.set_cons_zero, List.set_cons_succ]
        refine any_letter (fun W => Below W0.heap.size W0 W ∧ CIn b W ∧ Own Wa.heap.size (exL 0 0 ⟨#[]⟩ ⟨#[]⟩ (-16) 1 0 A 0 c) W ∧ Own W29.heap.size zeroL W) ⟨hHeld2, HC.out.set nb3 _, HR3.out.set _, HR4.out.other (Ne.symm n34) _⟩ (fun W42 hT => ?_)
        clear hK K hHeld hHeld2
        clear HC HR3 HR4
        obtain ⟨hHeld, tC, tR3, tR4⟩ := hT
        have HC := Lib.hid tC
        have HR3 := Lib.hid tR3
        have HR4 := Lib.hid tR4
        clear tC tR3 tR4
        refine only_ 7 rfl (by kernel_rfl) (by rfl) (fun K hK => ?_)
        refine wp_store_row rfl 27 _ _ rfl (W29.heap.size) 0 rfl (exL 28 0 ⟨#[]⟩ ⟨#[]⟩ 4 1 0 (some b) 1 cc) rfl (by kernel_rfl) zeroL (exL 28 0 ⟨#[]⟩ ⟨#[]⟩ 4 1 0 (some b) 1 cc) 27 HR4.out.2 (by show 0 + 8 ≤ 8; omega) (exL_one _ _ _ _ _ _ _ _ _ _) rfl ?_
        refine hK.out _ _ (setRow_below hHeld l4 _) (fun hHeld2 => ?_)
        try simp only [Act.put, List.setIfInBounds_toArray, List.set_cons_zero, List.set_cons_succ]
        refine any_letter (fun W => Below W0.heap.size W0 W ∧ CIn b W ∧ Own Wa.heap.size (exL 0 0 ⟨#[]⟩ ⟨#[]⟩ (-16) 1 0 A 0 c) W ∧ Own W29.heap.size (exL 28 0 ⟨#[]⟩ ⟨#[]⟩ 4 1 0 (some b) 1 cc) W) ⟨hHeld2, HC.out.set nb4 _, HR3.out.other n34 _, HR4.out.set _⟩ (fun W43 hT => ?_)
        clear hK K hHeld hHeld2
        clear HC HR3 HR4
        obtain ⟨hHeld, tC, tR3, tR4⟩ := hT
        have HC := Lib.hid tC
        have HR3 := Lib.hid tR3
        have HR4 := Lib.hid tR4
        clear tC tR3 tR4
        refine wpAnyH_done (by kernel_rfl) ?_ _
        refine NoPanic.normal ?_
        refine hK2 _ _ (Met.intro (hJ _ _ ?_))
        (repeat apply Exists.intro)
        refine ⟨?rel, rfl⟩
        case rel => exact ⟨_, _, _, _, _, _, _, rfl, rfl, rfl, ⟨HK0.out.b1.under hHeld, HR3.out, HR4.out, HC.out, HK0.out.below.trans (hHeld.mono HK0.out.below.size)⟩⟩
    · go_simp
      have l4 : W0.heap.size ≤ Wa.heap.size := hHeld.size
      refine hK.out _ _ (hHeld.alloc hHeld.size _) (fun hHeld2 => ?_)
      try simp only [Act.put, List.setIfInBounds_toArray, List.set_cons_zero, List.set_cons_succ]
      refine any_letter (fun W => Below W0.heap.size W0 W ∧ Own Wa.heap.size zeroL W) ⟨hHeld2, Own.new _ _ _ rfl⟩ (fun W44 hT => ?_)
      clear hK K hHeld hHeld2
      obtain ⟨hHeld, tR4⟩ := hT
      have HR4 := Lib.hid tR4
      clear tR4
      refine both_ 1 4 rfl rfl (by kernel_rfl) (by rfl) (by rfl) (fun K hK => ?_) (fun K hK => ?_)
      · go_simp
        refine (fold_any 7 0 ⟨#[]⟩ ⟨#[]⟩ 0 1 0 (some q1) 1 [shlT] _ _ (HK0.out.b1.under hHeld).sl (fun _ h => h)).mono ?_
        rintro e wf hans
        obtain ⟨A, c, rfl, hbf⟩ := DeepAns.of hans
        clear hans
        go_simp
        refine hK.out _ _ (hHeld.trans (hbf.mono hHeld.size)) (fun hHeld2 => ?_)
        try simp only [Act.put, List.setIfInBounds_toArray, List.set_cons_zero, List.set_cons_succ]
        refine any_letter (fun W => Below W0.heap.size W0 W ∧ Own Wa.heap.size zeroL W) ⟨hHeld2, HR4.out.under hbf⟩ (fun W45 hT => ?_)
        clear hK K hHeld hHeld2
        clear HR4
        obtain ⟨hHeld, tR4⟩ := hT
        have HR4 := Lib.hid tR4
        clear tR4
        refine both_ 3 4 rfl rfl (by kernel_rfl) (by rfl) (by rfl) (fun K hK => ?_) (fun K hK => ?_)
        · go_simp
          refine (fold_any 28 0 ⟨#[]⟩ ⟨#[]⟩ 4 1 0 (some q2) 1 [subT] _ _ (HK0.out.b2.under hHeld).sl (fun _ h => h)).mono ?_
          rintro e wf hans
          obtain ⟨b, cc, rfl, hlb, hlt, hx0, hx4, hbf⟩ := CellAns.of hans
          clear hans
          have nb4 : b ≠ Wa.heap.size := by
            have := HR4.out.1
            omega
          go_simp
          refine hK.out _ _ (hHeld.trans (hbf.mono hHeld.size)) (fun hHeld2 => ?_)
          try simp only [Act.put, List.setIfInBounds_toArray, List.set_cons_zero, List.set_cons_succ]
          refine any_letter (fun W => Below W0.heap.size W0 W ∧ CIn b W ∧ Own Wa.heap.size zeroL W) ⟨hHeld2, ⟨hlt, hx0, hx4⟩, HR4.out.under hbf⟩ (fun W46 hT => ?_)
          clear hK K hHeld hHeld2
          clear HR4
          obtain ⟨hHeld, tC, tR4⟩ := hT
          have HC := Lib.hid tC
          have HR4 := Lib.hid tR4
          clear tC tR4
          refine only_ 4 rfl (by kernel_rfl) (by rfl) (fun K hK => ?_)
          go_simp
          have l3 : W0.heap.size ≤ W46.heap.size := hHeld.size
          have nb3 : b ≠ W46.heap.size := by
            have := HC.out.1
            omega
          have n34 : W46.heap.size ≠ Wa.heap.size := by
            have := HR4.out.1
            omega
          refine hK.out _ _ (hHeld.alloc hHeld.size _) (fun hHeld2 => ?_)
          try simp only [Act.put, List.setIfInBounds_toArray, List.set_cons_zero, List.set_cons_succ]
          refine any_letter (fun W => Below W0.heap.size W0 W ∧ CIn b W ∧ Own W46.heap.size zeroL W ∧ Own Wa.heap.size zeroL W) ⟨hHeld2, HC.out.under ((Below.refl _ _).alloc (Nat.le_refl _) _), Own.new _ _ _ rfl, HR4.out.under ((Below.refl _ _).alloc (Nat.le_refl _) _)⟩ (fun W47 hT => ?_)
          clear hK K hHeld hHeld2
          clear HC HR4
          obtain ⟨hHeld, tC, tR3, tR4⟩ := hT
          have HC := Lib.hid tC
          have HR3 := Lib.hid tR3
          have HR4 := Lib.hid tR4
          clear tC tR3 tR4
          refine only_ 6 rfl (by kernel_rfl) (by rfl) (fun K hK => ?_)
          refine wp_store_row rfl 27 _ _ rfl (W46.heap.size) 0 rfl (exL 0 0 ⟨#[]⟩ ⟨#[]⟩ (-16) 1 0 A 0 c) rfl (by kernel_rfl) zeroL (exL 0 0 ⟨#[]⟩ ⟨#[]⟩ (-16) 1 0 A 0 c) 27 HR3.out.2 (by show 0 + 8 ≤ 8; omega) (exL_one _ _ _ _ _ _ _ _ _ _) rfl ?_
          refine hK.out _ _ (setRow_below hHeld l3 _) (fun hHeld2 => ?_)
          try simp only [Act.put, List.setIfInBounds_toArray, List.set_cons_zero, List.set_cons_succ]
          refine any_letter (fun W => Below W0.heap.size W0 W ∧ CIn b W ∧ Own W46.heap.size (exL 0 0 ⟨#[]⟩ ⟨#[]⟩ (-16) 1 0 A 0 c) W ∧ Own Wa.heap.size zeroL W) ⟨hHeld2, HC.out.set nb3 _, HR3.out.set _, HR4.out.other (Ne.symm n34) _⟩ (fun W48 hT => ?_)
          clear hK K hHeld hHeld2
          clear HC HR3 HR4
          obtain ⟨hHeld, tC, tR3, tR4⟩ := hT
          have HC := Lib.hid tC
          have HR3 := Lib.hid tR3
          have HR4 := Lib.hid tR4
          clear tC tR3 tR4
          refine only_ 7 rfl (by kernel_rfl) (by rfl) (fun K hK => ?_)
          refine wp_store_row rfl 27 _ _ rfl (Wa.heap.size) 0 rfl (exL 28 0 ⟨#[]⟩ ⟨#[]⟩ 4 1 0 (some b) 1 cc) rfl (by kernel_rfl) zeroL (exL 28 0 ⟨#[]⟩ ⟨#[]⟩ 4 1 0 (some b) 1 cc) 27 HR4.out.2 (by show 0 + 8 ≤ 8; omega) (exL_one _ _ _ _ _ _ _ _ _ _) rfl ?_
          refine hK.out _ _ (setRow_below hHeld l4 _) (fun hHeld2 => ?_)
          try simp only [Act.put, List.setIfInBounds_toArray, List.set_cons_zero, List.set_cons_succ]
          refine any_letter (fun W => Below W0.heap.size W0 W ∧ CIn b W ∧ Own W46.heap.size (exL 0 0 ⟨#[]⟩ ⟨#[]⟩ (-16) 1 0 A 0 c) W ∧ Own Wa.heap.size (exL 28 0 ⟨#[]⟩ ⟨#[]⟩ 4 1 0 (some b) 1 cc) W) ⟨hHeld2, HC.out.set nb4 _, HR3.out.other n34 _, HR4.out.set _⟩ (fun W49 hT => ?_)
          clear hK K hHeld hHeld2
          clear HC HR3 HR4
          obtain ⟨hHeld, tC, tR3, tR4⟩ := hT
          have HC := Lib.hid tC
          have HR3 := Lib.hid tR3
          have HR4 := Lib.hid tR4
          clear tC tR3 tR4
          refine wpAnyH_done (by kernel_rfl) ?_ _
          refine NoPanic.normal ?_
          refine hK2 _ _ (Met.intro (hJ _ _ ?_))
          (repeat apply Exists.intro)
          refine ⟨?rel, rfl⟩
          case rel => exact ⟨_, _, _, _, _, _, _, rfl, rfl, rfl, ⟨HK0.out.b1.under hHeld, HR3.out, HR4.out, HC.out, HK0.out.below.trans (hHeld.mono HK0.out.below.size)⟩⟩
        · go_simp
          have l3 : W0.heap.size ≤ W45.heap.size := hHeld.size
          have n34 : W45.heap.size ≠ Wa.heap.size := by
            have := HR4.out.1
            omega
          refine hK.out _ _ (hHeld.alloc hHeld.size _) (fun hHeld2 => ?_)
          try simp only [Act.put, List.setIfInBounds_toArray, List.set_cons_zero, List.set_cons_succ]
          refine any_letter (fun W => Below W0.heap.size W0 W ∧ Own W45.heap.size zeroL W ∧ Own Wa.heap.size zeroL W) ⟨hHeld2, Own.new _ _ _ rfl, HR4.out.under ((Below.refl _ _).alloc (Nat.le_refl _) _)⟩ (fun W50 hT => ?_)
          clear hK K hHeld hHeld2
          clear HR4
          obtain ⟨hHeld, tR3, tR4⟩ := hT
          have HR3 := Lib.hid tR3
          have HR4 := Lib.hid tR4
          clear tR3 tR4
          refine only_ 3 rfl (by kernel_rfl) (by rfl) (fun K hK => ?_)
          go_simp
          refine (fold_any 28 0 ⟨#[]⟩ ⟨#[]⟩ 4 1 0 (some q2) 1 [subT] _ _ (HK0.out.b2.under hHeld).sl (fun _ h => h)).mono ?_
          rintro e wf hans
          obtain ⟨b, cc, rfl, hlb, hlt, hx0, hx4, hbf⟩ := CellAns.of hans
          clear hans
          have nb3 : b ≠ W45.heap.size := by
            have := HR3.out.1
            omega
          have nb4 : b ≠ Wa.heap.size := by
            have := HR4.out.1
            omega
          go_simp
          refine hK.out _ _ (hHeld.trans (hbf.mono hHeld.size)) (fun hHeld2 => ?_)
          try simp only [Act.put, List.setIfInBounds_toArray, List.set_cons_zero, List.set_cons_succ]
          refine any_letter (fun W => Below W0.heap.size W0 W ∧ CIn b W ∧ Own W45.heap.size zeroL W ∧ Own Wa.heap.size zeroL W) ⟨hHeld2, ⟨hlt, hx0, hx4⟩, HR3.out.under hbf, HR4.out.under hbf⟩ (fun W51 hT => ?_)
          clear hK K hHeld hHeld2
          clear HR3 HR4
          obtain ⟨hHeld, tC, tR3, tR4⟩ := hT
          have HC := Lib.hid tC
          have HR3 := Lib.hid tR3
          have HR4 := Lib.hid tR4
          clear tC tR3 tR4
          refine only_ 6 rfl (by kernel_rfl) (by rfl) (fun K hK => ?_)
          refine wp_store_row rfl 27 _ _ rfl (W45.heap.size) 0 rfl (exL 0 0 ⟨#[]⟩ ⟨#[]⟩ (-16) 1 0 A 0 c) rfl (by kernel_rfl) zeroL (exL 0 0 ⟨#[]⟩ ⟨#[]⟩ (-16) 1 0 A 0 c) 27 HR3.out.2 (by show 0 + 8 ≤ 8; omega) (exL_one _ _ _ _ _ _ _ _ _ _) rfl ?_
          refine hK.out _ _ (setRow_below hHeld l3 _) (fun hHeld2 => ?_)
          try simp only [Act.put, List.setIfInBounds_toArray, List.set_cons_zero, List.set_cons_succ]
          refine any_letter (fun W => Below W0.heap.size W0 W ∧ CIn b W ∧ Own W45.heap.size (exL 0 0 ⟨#[]⟩ ⟨#[]⟩ (-16) 1 0 A 0 c) W ∧ Own Wa.heap.size zeroL W) ⟨hHeld2, HC.out.set nb3 _, HR3.out.set _, HR4.out.other (Ne.symm n34) _⟩ (fun W52 hT => ?_)
          clear hK K hHeld hHeld2
          clear HC HR3 HR4
          obtain ⟨hHeld, tC, tR3, tR4⟩ := hT
          have HC := Lib.hid tC
          have HR3 := Lib.hid tR3
          have HR4 := Lib.hid tR4
          clear tC tR3 tR4
          refine only_ 7 rfl (by kernel_rfl) (by rfl) (fun K hK => ?_)
          refine wp_store_row rfl 27 _ _ rfl (Wa.heap.size) 0 rfl (exL 28 0 ⟨#[]⟩ ⟨#[]⟩ 4 1 0 (some b) 1 cc) rfl (by kernel_rfl) zeroL (exL 28 0 ⟨#[]⟩ ⟨#[]⟩ 4 1 0 (some b) 1 cc) 27 HR4.out.2 (by show 0 + 8 ≤ 8; omega) (exL_one _ _ _ _ _ _ _ _ _ _) rfl ?_
          refine hK.out _ _ (setRow_below hHeld l4 _) (fun hHeld2 => ?_)
          try simp only [Act.put, List.setIfInBounds_toArray, List.set_cons_zero, List.set_cons_succ]
          refine any_letter (fun W => Below W0.heap.size W0 W ∧ CIn b W ∧ Own W45.heap.size (exL 0 0 ⟨#[]⟩ ⟨#[]⟩ (-16) 1 0 A 0 c) W ∧ Own Wa.heap.size (exL 28 0 ⟨#[]⟩ ⟨#[]⟩ 4 1 0 (some b) 1 cc) W) ⟨hHeld2, HC.out.set nb4 _, HR3.out.other n34 _, HR4.out.set _⟩ (fun W53 hT => ?_)
          clear hK K hHeld hHeld2
          clear HC HR3 HR4
          obtain ⟨hHeld, tC, tR3, tR4⟩ := hT
          have HC := Lib.hid tC
          have HR3 := Lib.hid tR3
          have HR4 := Lib.hid tR4
          clear tC tR3 tR4
          refine wpAnyH_done (by kernel_rfl) ?_ _
          refine NoPanic.normal ?_
          refine hK2 _ _ (Met.intro (hJ _ _ ?_))
          (repeat apply Exists.intro)
          refine ⟨?rel, rfl⟩
          case rel => exact ⟨_, _, _, _, _, _, _, rfl, rfl, rfl, ⟨HK0.out.b1.under hHeld, HR3.out, HR4.out, HC.out, HK0.out.below.trans (hHeld.mono HK0.out.below.size)⟩⟩
      · go_simp
        have l3 : W0.heap.size ≤ W44.heap.size := hHeld.size
        have n34 : W44.heap.size ≠ Wa.heap.size := by
          have := HR4.out.1
          omega
        refine hK.out _ _ (hHeld.alloc hHeld.size _) (fun hHeld2 => ?_)
        try simp only [Act.put, List.setIfInBounds_toArray, List.set_cons_zero, List.set_cons_succ]
        refine any_letter (fun W => Below W0.heap.size W0 W ∧ Own W44.heap.size zeroL W ∧ Own Wa.heap.size zeroL W) ⟨hHeld2, Own.new _ _ _ rfl, HR4.out.under ((Below.refl _ _).alloc (Nat.le_refl _) _)⟩ (fun W54 hT => ?_)
        clear hK K hHeld hHeld2
        clear HR4
        obtain ⟨hHeld, tR3, tR4⟩ := hT
        have HR3 := Lib.hid tR3
        have HR4 := Lib.hid tR4
        clear tR3 tR4
        refine only_ 1 rfl (by kernel_rfl) (by rfl) (fun K hK => ?_)
        go_simp
        refine (fold_any 7 0 ⟨#[]⟩ ⟨#[]⟩ 0 1 0 (some q1) 1 [shlT] _ _ (HK0.out.b1.under hHeld).sl (fun _ h => h)).mono ?_
        rintro e wf hans
        obtain ⟨A, c, rfl, hbf⟩ := DeepAns.of hans
        clear hans
        go_simp
        refine hK.out _ _ (hHeld.trans (hbf.mono hHeld.size)) (fun hHeld2 => ?_)
        try simp only [Act.put, List.setIfInBounds_toArray, List.set_cons_zero, List.set_cons_succ]
        refine any_letter (fun W => Below W0.heap.size W0 W ∧ Own W44.heap.size zeroL W ∧ Own Wa.heap.size zeroL W) ⟨hHeld2, HR3.out.under hbf, HR4.out.under hbf⟩ (fun W55 hT => ?_)
        clear hK K hHeld hHeld2
        clear HR3 HR4
        obtain ⟨hHeld, tR3, tR4⟩ := hT
        have HR3 := Lib.hid tR3
        have HR4 := Lib.hid tR4
        clear tR3 tR4
        refine only_ 3 rfl (by kernel_rfl) (by rfl) (fun K hK => ?_)
        go_simp
        refine (fold_any 28 0 ⟨#[]⟩ ⟨#[]⟩ 4 1 0 (some q2) 1 [subT] _ _ (HK0.out.b2.under hHeld).sl (fun _ h => h)).mono ?_
        rintro e wf hans
        obtain ⟨b, cc, rfl, hlb, hlt, hx0, hx4, hbf⟩ := CellAns.of hans
        clear hans
        have nb3 : b ≠ W44.heap.size := by
          have := HR3.out.1
          omega
        have nb4 : b ≠ Wa.heap.size := by
          have := HR4.out.1
          omega
        go_simp
        refine hK.out _ _ (hHeld.trans (hbf.mono hHeld.size)) (fun hHeld2 => ?_)
        try simp only [Act.put, List.setIfInBounds_toArray, List.set_cons_zero, List.set_cons_succ]
        refine any_letter (fun W => Below W0.heap.size W0 W ∧ CIn b W ∧ Own W44.heap.size zeroL W ∧ Own Wa.heap.size zeroL W) ⟨hHeld2, ⟨hlt, hx0, hx4⟩, HR3.out.under hbf, HR4.out.under hbf⟩ (fun W56 hT => ?_)
        clear hK K hHeld hHeld2
        clear HR3 HR4
        obtain ⟨hHeld, tC, tR3, tR4⟩ := hT
        have HC := Lib.hid tC
        have HR3 := Lib.hid tR3
        have HR4 := Lib.hid tR4
        clear tC tR3 tR4
        refine only_ 6 rfl (by kernel_rfl) (by rfl) (fun K hK => ?_)
        refine wp_store_row rfl 27 _ _ rfl (W44.heap.size) 0 rfl (exL 0 0 ⟨#[]⟩ ⟨#[]⟩ (-16) 1 0 A 0 c) rfl (by kernel_rfl) zeroL (exL 0 0 ⟨#[]⟩ ⟨#[]⟩ (-16) 1 0 A 0 c) 27 HR3.out.2 (by show 0 + 8 ≤ 8; omega) (exL_one _ _ _ _ _ _ _ _ _ _) rfl ?_
        refine hK.out _ _ (setRow_below hHeld l3 _) (fun hHeld2 => ?_)
        try simp only [Act.put, List.setIfInBounds_toArray, List.set_cons_zero, List.set_cons_succ]
        refine any_letter (fun W => Below W0.heap.size W0 W ∧ CIn b W ∧ Own W44.heap.size (exL 0 0 ⟨#[]⟩ ⟨#[]⟩ (-16) 1 0 A 0 c) W ∧ Own Wa.heap.size zeroL W) ⟨hHeld2, HC.out.set nb3 _, HR3.out.set _, HR4.out.other (Ne.symm n34) _⟩ (fun W57 hT => ?_)
        clear hK K hHeld hHeld2
        clear HC HR3 HR4
        obtain ⟨hHeld, tC, tR3, tR4⟩ := hT
        have HC := Lib.hid tC
        have HR3 := Lib.hid tR3
        have HR4 := Lib.hid tR4
        clear tC tR3 tR4
        refine only_ 7 rfl (by kernel_rfl) (by rfl) (fun K hK => ?_)
        refine wp_store_row rfl 27 _ _ rfl (Wa.heap.size) 0 rfl (exL 28 0 ⟨#[]⟩ ⟨#[]⟩ 4 1 0 (some b) 1 cc) rfl (by kernel_rfl) zeroL (exL 28 0 ⟨#[]⟩ ⟨#[]⟩ 4 1 0 (some b) 1 cc) 27 HR4.out.2 (by show 0 + 8 ≤ 8; omega) (exL_one _ _ _ _ _ _ _ _ _ _) rfl ?_
        refine hK.out _ _ (setRow_below hHeld l4 _) (fun hHeld2 => ?_)
        try simp only [Act.put, List.setIfInBounds_toArray, List.set_cons_zero, List.set_cons_succ]
        refine any_letter (fun W => Below W0.heap.size W0 W ∧ CIn b W ∧ Own W44.heap.size (exL 0 0 ⟨#[]⟩ ⟨#[]⟩ (-16) 1 0 A 0 c) W ∧ Own Wa.heap.size (exL 28 0 ⟨#[]⟩ ⟨#[]⟩ 4 1 0 (some b) 1 cc) W) ⟨hHeld2, HC.out.set nb4 _, HR3.out.other n34 _, HR4.out.set _⟩ (fun W58 hT => ?_)
        clear hK K hHeld hHeld2
        clear HC HR3 HR4
        obtain ⟨hHeld, tC, tR3, tR4⟩ := hT
        have HC := Lib.hid tC
        have HR3 := Lib.hid tR3
        have HR4 := Lib.hid tR4
        clear tC tR3 tR4
        refine wpAnyH_done (by kernel_rfl) ?_ _
        refine NoPanic.normal ?_
        refine hK2 _ _ (Met.intro (hJ _ _ ?_))
        (repeat apply Exists.intro)
        refine ⟨?rel, rfl⟩
        case rel => exact ⟨_, _, _, _, _, _, _, rfl, rfl, rfl, ⟨HK0.out.b1.under hHeld, HR3.out, HR4.out, HC.out, HK0.out.below.trans (hHeld.mono HK0.out.below.size)⟩⟩
  case rest =>
    obtain ⟨W, h3, h4, b, A, c, cc, rfl, rfl, rfl, hn⟩ := hcut
    have HN := Lib.hid hn
    clear hn HK0
    have hrow := HN.out.b1.row
    have q0 := row_at hrow 0 _ rfl
    have q1' := row_at hrow 1 _ rfl
    have q2' := row_at hrow 2 _ rfl
    have q3 := row_at hrow 3 _ rfl
    have q4 := row_at hrow 4 _ rfl
    have q5 := row_at hrow 5 _ rfl
    have q6 := row_at hrow 6 _ rfl
    have q7 := row_at hrow 7 _ rfl
    have hra : ∀ o, (W.alloc o).heap[h1]? = _ := fun o => (HN.out.b1.under ((Below.refl _ _).alloc (Nat.le_refl _) o)).row
    have p0 := fun o => row_at (hra o) 0 _ rfl
    have p1 := fun o => row_at (hra o) 1 _ rfl
    have p2 := fun o => row_at (hra o) 2 _ rfl
    have p3 := fun o => row_at (hra o) 3 _ rfl
    have p4 := fun o => row_at (hra o) 4 _ rfl
    have p5 := fun o => row_at (hra o) 5 _ rfl
    have p6 := fun o => row_at (hra o) 6 _ rfl
    have p7 := fun o => row_at (hra o) 7 _ rfl
    clear hrow hra
    go_upto_region 5 with (go_at_call 18; refine (prog_one ⟨#[]⟩ 0 0 0 0 0 0 [outerS] (W.heap.size + 1 + 1 + 1 + 1) 1 (some (W.heap.size + 1 + 1 + 1)) 1 _ _ (prog_in W h1 q1 HN.out.b1 _ _ _ _ _ rfl rfl rfl rfl rfl).1 (prog_in W h1 q1 HN.out.b1 _ _ _ _ _ rfl rfl rfl rfl rfl).2.1 (prog_in W h1 q1 HN.out.b1 _ _ _ _ _ rfl rfl rfl rfl rfl).2.2 (fun _ h => h)).mono ?_; rintro e w5 hans; obtain ⟨g, c5, bb, cb, e1, ce, bi, ci, cc5, C, e2, ce2, rfl, hlk, hb5⟩ := Looks.of hans; clear hans)
    refine code_letter (KF w h3 h4 w5.heap.size b A c cc g c5 bb cb e1 ce bi ci cc5 C e2 ce2) (known_prog HN.out _ _ _ _ _ _ hlk hb5 rfl) (fun W8 hk => ?_)
    have HF := Lib.hid hk
    clear hk hb5 hlk HN q0 q1' q2' q3 q4 q5 q6 q7 p0 p1 p2 p3 p4 p5 p6 p7
    generalize w5.heap.size = h5 at *
    go_upto_region 8 with (go_at_call 6; refine (works_any _).mono ?_; rintro e w9 ⟨rfl, hb9⟩; have HF2 := Lib.hid (HF.out.under hb9); clear HF hb9; have HF := HF2; clear HF2; have f2 := HF.out.pr; have f8 := HF.out.lk.1; have f7 := row_at HF.out.e.2 7 _ rfl; have r0 := cells_at HF.out.lk.2.1 0 _ rfl; have r1 := cells_at HF.out.lk.2.1 1 _ rfl; have r2 := cells_at HF.out.lk.2.1 2 _ rfl; have r3 := cells_at HF.out.lk.2.1 3 _ rfl; have r4 := cells_at HF.out.lk.2.1 4 _ rfl; have r5 := cells_at HF.out.lk.2.1 5 _ rfl; have r6 := cells_at HF.out.lk.2.1 6 _ rfl; have r7 := cells_at HF.out.lk.2.1 7 _ rfl; have r8 := cells_at HF.out.lk.2.1 8 _ rfl; have r9 := cells_at HF.out.lk.2.1 9 _ rfl; have r10 := cells_at HF.out.lk.2.1 10 _ rfl; have r11 := cells_at HF.out.lk.2.1 11 _ rfl)
    refine code_letter (KG w h3 h4 w9.heap.size b cc e1 ce bi ci e2 ce2) (known_last HF.out _ rfl) (fun WA hk => ?_)
    have HI := Lib.hid hk
    clear hk HF f2 f7 f8 r0 r1 r2 r3 r4 r5 r6 r7 r8 r9 r10 r11
    generalize w9.heap.size = h6 at *
    simp only [List.append_eq, List.cons_append, List.nil_append]
    go_wp2_with (first | (go_at_call 15; with_reducible refine (lawBin (9) (1) (256) (256) (0) _ (by as_aux_lemma => kernel_rfl)).mono ?_; rintro e wz ⟨rfl, hbz⟩; have HI2 := Lib.hid (HI.out.under hbz); clear HI hbz; have HI := HI2; clear HI2) | (go_at_call 15; with_reducible refine (lawBin (9) (2) (65536) (65536) (0) _ (by as_aux_lemma => kernel_rfl)).mono ?_; rintro e wz ⟨rfl, hbz⟩; have HI2 := Lib.hid (HI.out.under hbz); clear HI hbz; have HI := HI2; clear HI2) | (go_at_call 15; with_reducible refine (lawBin (12) (1) (32767) (1) (-32768) _ (by as_aux_lemma => kernel_rfl)).mono ?_; rintro e wz ⟨rfl, hbz⟩; have HI2 := Lib.hid (HI.out.under hbz); clear HI hbz; have HI := HI2; clear HI2) | (go_at_call 15; with_reducible refine (lawBin (12) (2) (2147483647) (1) (-2147483648) _ (by as_aux_lemma => kernel_rfl)).mono ?_; rintro e wz ⟨rfl, hbz⟩; have HI2 := Lib.hid (HI.out.under hbz); clear HI hbz; have HI := HI2; clear HI2) | (go_at_call 15; with_reducible refine (lawBin (10) (2) (-2147483648) (-1) (-2147483648) _ (by as_aux_lemma => kernel_rfl)).mono ?_; rintro e wz ⟨rfl, hbz⟩; have HI2 := Lib.hid (HI.out.under hbz); clear HI hbz; have HI := HI2; clear HI2) | (go_at_call 15; with_reducible refine (lawBin (11) (2) (-2147483648) (-1) (0) _ (by as_aux_lemma => kernel_rfl)).mono ?_; rintro e wz ⟨rfl, hbz⟩; have HI2 := Lib.hid (HI.out.under hbz); clear HI hbz; have HI := HI2; clear HI2) | (go_at_call 15; with_reducible refine (lawBin (14) (2) (1) (33) (2) _ (by as_aux_lemma => kernel_rfl)).mono ?_; rintro e wz ⟨rfl, hbz⟩; have HI2 := Lib.hid (HI.out.under hbz); clear HI hbz; have HI := HI2; clear HI2) | (go_at_call 15; with_reducible refine (lawBin (15) (2) (-2147483648) (31) (-1) _ (by as_aux_lemma => kernel_rfl)).mono ?_; rintro e wz ⟨rfl, hbz⟩; have HI2 := Lib.hid (HI.out.under hbz); clear HI hbz; have HI := HI2; clear HI2) | (go_at_call 15; with_reducible refine (lawBin (15) (2) (-8) (-31) (-4) _ (by as_aux_lemma => kernel_rfl)).mono ?_; rintro e wz ⟨rfl, hbz⟩; have HI2 := Lib.hid (HI.out.under hbz); clear HI hbz; have HI := HI2; clear HI2) | (go_at_call 15; with_reducible refine (lawBin (22) (1) (-1) (255) (255) _ (by as_aux_lemma => kernel_rfl)).mono ?_; rintro e wz ⟨rfl, hbz⟩; have HI2 := Lib.hid (HI.out.under hbz); clear HI hbz; have HI := HI2; clear HI2) | (go_at_call 15; with_reducible refine (lawBin (23) (2) (-1) (1) (-2) _ (by as_aux_lemma => kernel_rfl)).mono ?_; rintro e wz ⟨rfl, hbz⟩; have HI2 := Lib.hid (HI.out.under hbz); clear HI hbz; have HI := HI2; clear HI2) | (go_at_call 15; with_reducible refine (lawBin (24) (1) (256) (1) (257) _ (by as_aux_lemma => kernel_rfl)).mono ?_; rintro e wz ⟨rfl, hbz⟩; have HI2 := Lib.hid (HI.out.under hbz); clear HI hbz; have HI := HI2; clear HI2) | (go_at_call 15; with_reducible refine (lawBinN _).mono ?_; rintro e wz ⟨rfl, hbz⟩; have HI2 := Lib.hid (HI.out.under hbz); clear HI hbz; have HI := HI2; clear HI2) | (go_at_call 16; with_reducible refine (un_at 4 1 (-32768) (-32768) _ (by decide) (by decide) (by decide) (by decide) (by as_aux_lemma => kernel_rfl) (by as_aux_lemma => kernel_rfl)).mono ?_; rintro e wz ⟨rfl, hbz⟩; have HI2 := Lib.hid (HI.out.under hbz); clear HI hbz; have HI := HI2; clear HI2) | (go_at_call 16; with_reducible refine (un_at 5 1 (0) (-1) _ (by decide) (by decide) (by decide) (by decide) (by as_aux_lemma => kernel_rfl) (by as_aux_lemma => kernel_rfl)).mono ?_; rintro e wz ⟨rfl, hbz⟩; have HI2 := Lib.hid (HI.out.under hbz); clear HI hbz; have HI := HI2; clear HI2) | (go_at_call 16; with_reducible refine (un_at 6 2 (0) (1) _ (by decide) (by decide) (by decide) (by decide) (by as_aux_lemma => kernel_rfl) (by as_aux_lemma => kernel_rfl)).mono ?_; rintro e wz ⟨rfl, hbz⟩; have HI2 := Lib.hid (HI.out.under hbz); clear HI hbz; have HI := HI2; clear HI2) | (go_at_call 16; with_reducible refine (un_at 6 2 (-3) (0) _ (by decide) (by decide) (by decide) (by decide) (by as_aux_lemma => kernel_rfl) (by as_aux_lemma => kernel_rfl)).mono ?_; rintro e wz ⟨rfl, hbz⟩; have HI2 := Lib.hid (HI.out.under hbz); clear HI hbz; have HI := HI2; clear HI2) | (go_at_call 16; with_reducible refine (un_at 8 2 (70000) (70000) _ (by decide) (by decide) (by decide) (by decide) (by as_aux_lemma => kernel_rfl) (by as_aux_lemma => kernel_rfl)).mono ?_; rintro e wz ⟨rfl, hbz⟩; have HI2 := Lib.hid (HI.out.under hbz); clear HI hbz; have HI := HI2; clear HI2) | (go_at_call 16; with_reducible refine (un7_at 70000 4464 _ (by decide) (by decide) (by as_aux_lemma => kernel_rfl)).mono ?_; rintro e wz ⟨rfl, hbz⟩; have HI2 := Lib.hid (HI.out.under hbz); clear HI hbz; have HI := HI2; clear HI2; obtain ⟨s0, s1, s2, s3, s4, s5, s6, s7, s8, s9, s10, s11, _, _, _, _, _, _, _, _⟩ := HI.out) | (go_at_call 13; with_reducible refine (wrap_at 2 2147483648 (-2147483648) _ (by as_aux_lemma => kernel_rfl)).mono ?_; rintro e wz ⟨rfl, rfl⟩))
    go_ret
    exact ⟨rfl, HI.out.below⟩
end Go.Proofs.Ythmphmndpfkbcaa
