/-
  WorldPlays' walk, if the program's functions are what they must be: true. Made by wip/genworldref.py.
-/
import Derived.Test.YtimlhckihkjifaaSw
import Derived.Test.YtimlhckihkjifaaPl
import Derived.Deep.DeepCutAuto
import Derived.Deep.CutBlock
namespace Go.Proofs.Ytimlhckihkjifaa
open Go.RowKit
set_option linter.unusedVariables false
set_option linter.unusedSimpArgs false
theorem upto_len (l : List In) (c : Int) : (uptoL l c).length ≤ l.length := List.length_filter_le _ _
set_option maxHeartbeats 16000000 in
set_option maxRecDepth 100000 in
theorem plays_walk (H : WorldOk) {PL : PlT} (HP : PlayerOk PL) (A : Option Addr) (cap B : Nat) (l : List Dr) (up : Nat) (w : World) (hr : DIn w B A l) (hB : B ≤ w.heap.size) (hup : up < 65536) :
    Calls Try.prog 5 #[.slice A l.length cap, .int .u16 (up : Int)] w fun e w' => e = .returned (.bool true) ∧ Below w.heap.size w w' := by
  have HR := Lib.hid hr
  have HBW := Lib.hid hB
  have HA := Lib.hid H.at_
  have KW := Lib.hid (works_any H)
  have KS := Lib.hid (fun W h2 h3 => rScript_any A cap B l W h2 h3)
  have HSC := Lib.hid (script_scr hr.ok)
  have HSO := Lib.hid (script_ok hr.ok)
  have HSL := Lib.hid (script_len l)
  obtain ⟨s, hs⟩ : ∃ s, scriptL l = s := ⟨_, rfl⟩
  rw [hs] at KS HSC HSO HSL
  obtain ⟨M, hM⟩ : ∃ x, up % 400 = x := ⟨_, rfl⟩
  have hm1 : (up : Int).tmod 400 = (M : Int) := by rw [Int.tmod_eq_emod_of_nonneg (by omega)]; omega
  have hm2 : (up : Int) % 400 = (M : Int) := by omega
  have m1 : (M : Int) ≤ 399 := by omega
  have ha2 : (up : Int) < 65536 := by omega
  have BB_0 : Hid (Below w.heap.size w w) := Lib.hid (Below.refl _ _)
  clear hr hB hs hM hup
  go_enter Try.func5, Try.ntmps5
  go_upto_region 4 with (first
    | (go_at_call 7; have hc := BB_1; clear hc; refine (KS.out _ (HR.out.below BB_1.out HBW.out) (Nat.le_trans HBW.out BB_1.out.size)).mono ?_; rintro e w2 ⟨⟨v, rfl, ho⟩, hB⟩; have OS := Lib.hid ho; have BB_2 := Lib.hid (BB_1.out.trans (hB.mono BB_1.out.size)); clear ho hB BB_0 BB_1)
    | (go_at_call 15; have hc := BB_0; clear hc; with_reducible refine (KW.out _).mono ?_; rintro e w1 ⟨rfl, hB⟩; have BB_1 := Lib.hid (BB_0.out.trans (hB.mono BB_0.out.size)); clear hB))
  obtain ⟨sA, scap, rfl, hcps, hrs⟩ := OS.out.rdc (by have := HSL.out; omega) HSO.out
  have HCS := Lib.hid hcps
  clear hcps
  obtain ⟨Bs, hBs⟩ : ∃ n, w2.heap.size = n := ⟨_, rfl⟩
  have SB_2 := Lib.hid (Nat.le_of_eq hBs.symm)
  have SE := Lib.hid hBs
  rw [hBs] at hrs
  have RS_2 := Lib.hid hrs
  clear hrs hBs OS KS HR HBW
  have HUL := Lib.hid (upto_len s (M : Int))
  have HUC := Lib.hid (upto_scr HSC.out (M : Int))
  have HU1 := Lib.hid (fun (i : Int) (h : 1 ≤ i) (h2 : i ≤ (M : Int)) => upto_now HSC.out h h2)
  have HU2 := Lib.hid (fun (i : Int) (h : 1 ≤ i) (h2 : (M : Int) < i) => upto_quiet HSC.out h h2)
  have K1 : Hid (∀ W : World, Rd W Bs sA s → Bs ≤ W.heap.size → Calls Try.prog 9 #[.slice sA s.length scap] W fun e W' => (∃ a S F, e = .returned (.pointer (some a)) ∧ PL W' a s 0 S F ∧ (∀ k, F k → W.heap.size ≤ k) ∧ ∀ k, S k → k < Bs ∨ W.heap.size ≤ k) ∧ Below W.heap.size W W') := Lib.hid (fun W h h2 => HP.new W _ sA scap s (h.toS h2) (by rw [HSC.out.chk]) (by have := HSL.out; omega))
  have K2 : Hid (∀ W : World, Rd W Bs sA s → Bs ≤ W.heap.size → Calls Try.prog 19 #[.slice sA s.length scap, .int .i64 (M : Int)] W fun e w' => (∃ A' cap' T', e = .returned (.slice A' (uptoL s (M : Int)).length cap') ∧ RdS w' T' A' (uptoL s (M : Int)) ∧ ∀ k, T' k → k < Bs ∨ W.heap.size ≤ k) ∧ Below W.heap.size W w') := Lib.hid (fun W h h2 => HP.upto _ sA scap s (M : Int) W (h.toS h2) (by have := HSL.out; omega) (by omega) (by omega))
  obtain ⟨t, ht⟩ : ∃ t, uptoL s (M : Int) = t := ⟨_, rfl⟩
  rw [ht] at HUL HUC K2
  have HU1' : Hid (∀ (i : Int), 1 ≤ i → i ≤ (M : Int) → atL t i = atL s i) := Lib.hid (by rw [← ht]; exact HU1.out)
  have HU2' : Hid (∀ (i : Int), 1 ≤ i → (M : Int) < i → (atL t i).b = false) := Lib.hid (by rw [← ht]; exact HU2.out)
  clear ht HU1 HU2
  go_upto_region 6 with (first
    | (go_at_call 9; have hc := TU_4; refine (HP.new _ _ uA ucap t TU_4.out (by rw [HUC.out.chk]) (by have := HSL.out; have := HUL.out; omega)).mono ?_; rintro e w5 ⟨⟨qa, S2, F2, rfl, hq, hF2, hS2⟩, hB⟩; have Q_5 := Lib.hid hq; have FF2 := Lib.hid hF2; have SS2 := Lib.hid hS2; have P_5 := Lib.hid (pl_below HP P_4.out hB); have RS_5 := Lib.hid (RS_4.out.below hB SB_4.out); have SB_5 := Lib.hid (Nat.le_trans SB_4.out hB.size); have BB_5 := Lib.hid (BB_4.out.trans (hB.mono BB_4.out.size)); have Z_5 := Lib.hid hB.size; clear hc hq hF2 hS2 hB TU_4)
    | (go_at_call 19; have hc := P_3; refine (K2.out _ RS_3.out SB_3.out).mono ?_; rintro e w4 ⟨⟨uA, ucap, T1, rfl, hu, hT1⟩, hB⟩; have TU_4 := Lib.hid hu; have TT := Lib.hid hT1; have P_4 := Lib.hid (pl_below HP P_3.out hB); have RS_4 := Lib.hid (RS_3.out.below hB SB_3.out); have SB_4 := Lib.hid (Nat.le_trans SB_3.out hB.size); have BB_4 := Lib.hid (BB_3.out.trans (hB.mono BB_3.out.size)); have Z_4 := Lib.hid hB.size; clear hc hu hT1 hB P_3)
    | (go_at_call 9; have hc := RS_2; refine (K1.out _ RS_2.out SB_2.out).mono ?_; rintro e w3 ⟨⟨pa, S1, F1, rfl, hp, hF1, hS1⟩, hB⟩; have P_3 := Lib.hid hp; have LT1 := Lib.hid (HP.lt _ _ _ _ _ _ hp).1; have FF1 := Lib.hid hF1; have SS1 := Lib.hid hS1; have LF1 := Lib.hid (HP.lt _ _ _ _ _ _ hp).2; have RS_3 := Lib.hid (RS_2.out.below hB SB_2.out); have SB_3 := Lib.hid (Nat.le_trans SB_2.out hB.size); have BB_3 := Lib.hid (BB_2.out.trans (hB.mono BB_2.out.size)); have Z_3 := Lib.hid hB.size; clear hc hp hF1 hS1 hB RS_2))
  have TW_5 : Hid (Two PL w5 Bs pa qa s t 0 0) := Lib.hid ⟨S1, F1, S2, F2, P_5.out, Q_5.out, fun j h1 h2 => by
      have a1 := LT1.out j (LF1.out j h1)
      have a2 := FF1.out j h1
      have z3 := Z_3.out
      have z4 := Z_4.out
      rcases SS2.out j h2 with h | h
      · rcases TT.out j h with h | h
        · have := SE.out
          omega
        · omega
      · omega, fun j h1 h2 => by
      have a1 := LT1.out j h2
      have a2 := FF2.out j h1
      have z4 := Z_4.out
      omega, fun j h1 => by
      have a2 := FF1.out j h1
      have := SE.out
      omega, fun j h1 => by
      have a2 := FF2.out j h1
      have z3 := Z_3.out
      have z4 := Z_4.out
      have := SE.out
      omega⟩
  have ZB : Hid (w.heap.size ≤ Bs) := Lib.hid (by have := BB_2.out.size; have := SE.out; omega)
  clear P_4 P_5 Q_5 LT1 LF1 FF1 SS1 FF2 SS2 TT SE Z_3 Z_4 Z_5 K1 K2 RS_3 RS_4 SB_2 SB_3 SB_4 BB_2 BB_3 BB_4
  go_upto_region 8 with (go_at_call 13; refine (two_cycle HP TW_5.out (by omega)).mono ?_; rintro e w6 ⟨rfl, hB⟩; have TW_6 := Lib.hid (TW_5.out.below HP hB); have RS_6 := Lib.hid (RS_5.out.below hB SB_5.out); have SB_6 := Lib.hid (Nat.le_trans SB_5.out hB.size); have BB_6 := Lib.hid (BB_5.out.trans (hB.mono BB_5.out.size)); clear hB TW_5 RS_5 SB_5 BB_5)
  go_wp2_with fail
  go_loopw [9] (fun iv wr => ∃ i j : Nat, i = j + 1 ∧ i ≤ 450 ∧ iv = .int .i64 (i : Int) ∧ Two PL wr Bs pa qa s t j j ∧ Rd wr Bs sA s ∧ Bs ≤ wr.heap.size ∧ Below w.heap.size w wr) (fun iv _ => 450 - (intOf iv).toNat)
  case atStart => exact ⟨1, 0, rfl, by omega, rfl, TW_6.out, RS_6.out, SB_6.out, BB_6.out⟩
  case round =>
    clear TW_6 RS_6 SB_6 BB_6
    obtain ⟨i, j, hij, hi2, rfl, q1, q2, q3, q4⟩ := hrel
    obtain ⟨w7, hu⟩ : ∃ W, wr = W := ⟨_, rfl⟩
    rw [hu] at q1 q2 q3 q4 ⊢
    have TW_7 := Lib.hid q1
    have RS_7 := Lib.hid q2
    have SB_7 := Lib.hid q3
    have BB_7 := Lib.hid q4
    have HIJ := Lib.hid hij
    have hi1 : 1 ≤ (i : Int) := by omega
    clear q1 q2 q3 q4 hu hij
    by_cases hlt : i < 450
    · have d1 : (i : Int) < 450 := by omega
      have HLT := Lib.hid (And.intro hi1 hlt)
      have KA : Hid (∀ (W : World), Rd W Bs sA s → Bs ≤ W.heap.size → Calls Try.prog 18 #[.slice sA s.length scap, .int .i64 (i : Int)] W fun e w' => e = .returned (.agg (nc (atL s (i : Int))).toArray) ∧ Below W.heap.size W w') := Lib.hid (fun W h h2 => HA.out sA scap Bs s (i : Int) W h h2 HCS.out (by omega) (by omega))
      have KN : Hid (∀ (W : World), Two PL W Bs pa qa s t j j → Bs ≤ W.heap.size → Calls Try.prog 11 #[.pointer (some pa)] W fun e W' => (e = .returned (.agg (nc (atL s (i : Int))).toArray) ∧ Two PL W' Bs pa qa s t i j) ∧ Below Bs W W') := Lib.hid (fun W h h2 => by have q := two_next HP h (by have := HIJ.out; have := HLT.out; omega) h2; rw [← HIJ.out] at q; exact q)
      have KM : Hid (∀ (W : World), Two PL W Bs pa qa s t i j → Bs ≤ W.heap.size → Calls Try.prog 11 #[.pointer (some qa)] W fun e W' => (e = .returned (.agg (nc (atL t (i : Int))).toArray) ∧ Two PL W' Bs pa qa s t i i) ∧ Below Bs W W') := Lib.hid (fun W h h2 => by have q := two_next2 HP h (by have := HIJ.out; have := HLT.out; omega) h2; rw [← HIJ.out] at q; exact q)
      have HN1 := Lib.hid (fun (h : (i : Int) ≤ (M : Int)) => HU1'.out (i : Int) hi1 h)
      have HN2 := Lib.hid (fun (h : (M : Int) < (i : Int)) => HU2'.out (i : Int) hi1 h)
      obtain ⟨n1, hn1⟩ : ∃ n, atL s (i : Int) = n := ⟨_, rfl⟩
      obtain ⟨n2, hn2⟩ : ∃ n, atL t (i : Int) = n := ⟨_, rfl⟩
      rw [hn1] at KA KN HN1
      rw [hn2] at KM HN1 HN2
      clear hn1 hn2 hlt hi2
      go_upto_region 12 with (first
        | ((with_reducible show wpList _ _ _ (⟨none, .store 33 (.tmp 11) (.tmp 43), _, _, _, _⟩ :: _) _ _); refine wpList_store_v rfl 33 _ _ rfl (w9.heap.size + 1) (by exact rfl) (nc n2) (by exact rfl) (by kernel_rfl) (nc_one _) 33 [.int .u8 0, .int .u8 0, .bool false, .int .u8 0] R19_1.out rfl ?_; intro v2 HN HO HB; have R19_2 : Hid (VRow v2 (w9.heap.size + 1) 33 (nc n2)) := HN; have R18_2 : Hid (VRow v2 w9.heap.size 33 (nc n1)) := Lib.hid ((HO.out _ (by omega)).trans R18_1.out); have BV_2 : Hid (Below w9.heap.size w9 v2) := Lib.hid (BV_1.out.trans (HB.out.mono (by omega))); clear HN HO HB R18_1 R19_1 BV_1)
        | ((with_reducible show wpList _ _ _ (⟨none, .store 33 (.tmp 10) (.tmp 41), _, _, _, _⟩ :: _) _ _); refine wpList_store_v rfl 33 _ _ rfl w9.heap.size (by exact rfl) (nc n1) (by exact rfl) (by kernel_rfl) (nc_one _) 33 [.int .u8 0, .int .u8 0, .bool false, .int .u8 0] (two_at0 w9 _ _) rfl ?_; intro v1 HN HO HB; have R18_1 : Hid (VRow v1 w9.heap.size 33 (nc n1)) := HN; have R19_1 : Hid (VRow v1 (w9.heap.size + 1) 33 [.int .u8 0, .int .u8 0, .bool false, .int .u8 0]) := Lib.hid ((HO.out _ (by omega)).trans (two_at w9 _ _)); have BV_1 : Hid (Below w9.heap.size w9 v1) := Lib.hid ((two_below w9 _ _).trans HB.out); clear HN HO HB)
        | (go_at_call 11; have hc := TW_8; refine (KM.out _ TW_8.out SB_8.out).mono ?_; rintro e w9 ⟨⟨rfl, ht⟩, hB⟩; have TW_9 := Lib.hid ht; have BB_9 := Lib.hid (BB_8.out.trans (hB.mono ZB.out)); have RS_9 := Lib.hid (RS_8.out.below hB (Nat.le_refl _)); have SB_9 := Lib.hid (Nat.le_trans SB_8.out hB.size); clear hc ht hB TW_8 RS_8 SB_8 BB_8)
        | (go_at_call 11; have hc := TW_7; refine (KN.out _ TW_7.out SB_7.out).mono ?_; rintro e w8 ⟨⟨rfl, ht⟩, hB⟩; have TW_8 := Lib.hid ht; have BB_8 := Lib.hid (BB_7.out.trans (hB.mono ZB.out)); have RS_8 := Lib.hid (RS_7.out.below hB (Nat.le_refl _)); have SB_8 := Lib.hid (Nat.le_trans SB_7.out hB.size); clear hc ht hB TW_7 RS_7 SB_7 BB_7))
      have TW_v := Lib.hid (TW_9.out.below HP BV_2.out)
      have RS_v := Lib.hid (RS_9.out.below BV_2.out SB_9.out)
      have SB_v := Lib.hid (Nat.le_trans SB_9.out BV_2.out.size)
      have BB_v := Lib.hid (BB_9.out.trans (BV_2.out.mono BB_9.out.size))
      clear TW_9 RS_9 SB_9 BB_9 BV_2
      obtain ⟨g11, hg11⟩ : ∃ g, w9.heap.size + 1 = g := ⟨_, rfl⟩
      rw [hg11] at R19_2 ⊢
      obtain ⟨g10, hg10⟩ : ∃ g, w9.heap.size = g := ⟨_, rfl⟩
      rw [hg10] at R18_2 ⊢
      clear hg10 hg11
      obtain ⟨v, hv⟩ : ∃ W, v2 = W := ⟨_, rfl⟩
      rw [hv] at TW_v RS_v SB_v BB_v R18_2 R19_2 ⊢
      clear hv
      have hdone : Hid (∀ X, Below v.heap.size v X → ∃ i' j' : Nat, i' = j' + 1 ∧ i' ≤ 450 ∧ Value.int .i64 ((i : Int) + 1) = .int .i64 (i' : Int) ∧ Two PL X Bs pa qa s t j' j' ∧ Rd X Bs sA s ∧ Bs ≤ X.heap.size ∧ Below w.heap.size w X) := Lib.hid (fun X hX => ⟨i + 1, i, rfl, by have := HLT.out; omega, rfl, TW_v.out.below HP hX, RS_v.out.below hX SB_v.out, Nat.le_trans SB_v.out hX.size, BB_v.out.trans (hX.mono BB_v.out.size)⟩)
      have gg := guard_now
      have gn := neq_now n1
      have KC := Lib.hid (fun W h => two_cycle HP (TW_v.out.below (W' := W) HP h) (by have := HLT.out; omega))
      by_cases hic : (i : Int) ≤ (M : Int)
      · have e2 := (HN1.out hic).symm
        subst e2
        have hic2 : ¬ (M : Int) < (i : Int) := by omega
        refine wp_region_noPanic ?_
        refine wp_region_held_drew (S := fun X => Below v.heap.size v X) (by kernel_rfl) ((Below.refl _ v).drew) (fun hHeld => ?_)
        refine' take_ 0 rfl (by kernel_rfl) (by kernel_rfl) (by kernel_rfl) (fun _ _ _ h => h) (by rfl) (fun wS hSw => run_load_v wS 33 _ g10 rfl _ Try.underlying33 33 (nc n1) (VRow.below R18_2.out hSw R18_2.out.lt) (by kernel_rfl) _ _ _ _ _) hHeld ?_
        try simp only [Act.put, List.setIfInBounds_toArray, List.set_cons_zero, List.set_cons_succ]
        refine' take_ 1 rfl (by kernel_rfl) (by kernel_rfl) (by kernel_rfl) (fun _ _ _ h => h) (by rfl) (fun wS hSw => ?_) hHeld ?_
        rotate_left
        focus (go_simp; (try with_reducible rfl); done)
        try simp only [Act.put, List.setIfInBounds_toArray, List.set_cons_zero, List.set_cons_succ]
        refine' take_ 2 rfl (by kernel_rfl) (by kernel_rfl) (by kernel_rfl) (fun _ _ _ h => h) (by rfl) (fun wS hSw => ?_) hHeld ?_
        rotate_left
        focus (go_simp; (try with_reducible rfl); done)
        try simp only [Act.put, List.setIfInBounds_toArray, List.set_cons_zero, List.set_cons_succ]
        refine only_ 3 rfl (by kernel_rfl) (by rfl) (fun K hK => ?_)
        obtain ⟨Y, hY⟩ : ∃ Y, v.drew = Y := ⟨_, rfl⟩
        rw [hY] at hHeld ⊢
        clear hY
        refine wp_call_ret 18 _ _ rfl _ (by rfl) (by kernel_rfl) _ (KA.out _ (RS_v.out.below hHeld SB_v.out) (Nat.le_trans SB_v.out hHeld.size)) (fun Y2 hB => ?_)
        have hH2 := hHeld.trans (hB.mono hHeld.size)
        refine hK.out _ _ hH2 (fun _ => ?_)
        clear hK K hB hHeld
        have hHeld := hH2
        clear hH2
        show wpAnyH _ _ _ _ _ _ _ (Act.put _ (some 47) _) _
        try simp only [Act.put, List.setIfInBounds_toArray, List.set_cons_zero, List.set_cons_succ]
        refine' take_ 4 rfl (by kernel_rfl) (by kernel_rfl) (by kernel_rfl) (fun _ _ _ h => h) (by rfl) (fun wS hSw => ?_) hHeld ?_
        rotate_left
        focus (go_simp; (try with_reducible rfl); done)
        try simp only [Act.put, List.setIfInBounds_toArray, List.set_cons_zero, List.set_cons_succ]
        refine' take_ 5 rfl (by kernel_rfl) (by kernel_rfl) (by kernel_rfl) (fun _ _ _ h => h) (by rfl) (fun wS hSw => ?_) hHeld ?_
        rotate_left
        focus (go_simp; (try with_reducible rfl); done)
        try simp only [Act.put, List.setIfInBounds_toArray, List.set_cons_zero, List.set_cons_succ]
        refine' take_ 6 rfl (by kernel_rfl) (by kernel_rfl) (by kernel_rfl) (fun _ _ _ h => h) (by rfl) (fun wS hSw => ?_) hHeld ?_
        rotate_left
        focus (go_simp; (try with_reducible rfl); done)
        try simp only [Act.put, List.setIfInBounds_toArray, List.set_cons_zero, List.set_cons_succ]
        refine' take_ 7 rfl (by kernel_rfl) (by kernel_rfl) (by kernel_rfl) (fun _ _ _ h => h) (by rfl) (fun wS hSw => ?_) hHeld ?_
        rotate_left
        focus (go_simp; (try with_reducible rfl); done)
        try simp only [Act.put, List.setIfInBounds_toArray, List.set_cons_zero, List.set_cons_succ]
        refine' take_ 8 rfl (by kernel_rfl) (by kernel_rfl) (by kernel_rfl) (fun _ _ _ h => h) (by rfl) (fun wS hSw => ?_) hHeld ?_
        rotate_left
        focus (go_simp; (try with_reducible rfl); done)
        try simp only [Act.put, List.setIfInBounds_toArray, List.set_cons_zero, List.set_cons_succ]
        refine' take_ 9 rfl (by kernel_rfl) (by kernel_rfl) (by kernel_rfl) (fun _ _ _ h => h) (by rfl) (fun wS hSw => ?_) hHeld ?_
        rotate_left
        focus (go_simp; (try with_reducible rfl); done)
        try simp only [Act.put, List.setIfInBounds_toArray, List.set_cons_zero, List.set_cons_succ]
        refine' take_ 10 rfl (by kernel_rfl) (by kernel_rfl) (by kernel_rfl) (fun _ _ _ h => h) (by rfl) (fun wS hSw => run_load_v wS 33 _ g10 rfl _ Try.underlying33 33 (nc n1) (VRow.below R18_2.out hSw R18_2.out.lt) (by kernel_rfl) _ _ _ _ _) hHeld ?_
        try simp only [Act.put, List.setIfInBounds_toArray, List.set_cons_zero, List.set_cons_succ]
        refine' take_ 11 rfl (by kernel_rfl) (by kernel_rfl) (by kernel_rfl) (fun _ _ _ h => h) (by rfl) (fun wS hSw => run_load_v wS 33 _ g11 rfl _ Try.underlying33 33 (nc n1) (VRow.below R19_2.out hSw R19_2.out.lt) (by kernel_rfl) _ _ _ _ _) hHeld ?_
        try simp only [Act.put, List.setIfInBounds_toArray, List.set_cons_zero, List.set_cons_succ]
        refine' take_ 12 rfl (by kernel_rfl) (by kernel_rfl) (by kernel_rfl) (fun _ _ _ h => h) (by rfl) (fun wS hSw => ?_) hHeld ?_
        rotate_left
        focus (go_simp; (try with_reducible rfl); done)
        try simp only [Act.put, List.setIfInBounds_toArray, List.set_cons_zero, List.set_cons_succ]
        refine' take_ 13 rfl (by kernel_rfl) (by kernel_rfl) (by kernel_rfl) (fun _ _ _ h => h) (by rfl) (fun wS hSw => ?_) hHeld ?_
        rotate_left
        focus (go_simp; (try with_reducible rfl); done)
        try simp only [Act.put, List.setIfInBounds_toArray, List.set_cons_zero, List.set_cons_succ]
        refine' take_ 14 rfl (by kernel_rfl) (by kernel_rfl) (by kernel_rfl) (fun _ _ _ h => h) (by rfl) (fun wS hSw => ?_) hHeld ?_
        rotate_left
        focus (go_simp; (try with_reducible rfl); done)
        try simp only [Act.put, List.setIfInBounds_toArray, List.set_cons_zero, List.set_cons_succ]
        refine' take_ 15 rfl (by kernel_rfl) (by kernel_rfl) (by kernel_rfl) (fun _ _ _ h => h) (by rfl) (fun wS hSw => ?_) hHeld ?_
        rotate_left
        focus (go_simp; (try with_reducible rfl); done)
        try simp only [Act.put, List.setIfInBounds_toArray, List.set_cons_zero, List.set_cons_succ]
        refine' take_ 16 rfl (by kernel_rfl) (by kernel_rfl) (by kernel_rfl) (fun _ _ _ h => h) (by rfl) (fun wS hSw => ?_) hHeld ?_
        rotate_left
        focus (go_simp; (try with_reducible rfl); done)
        try simp only [Act.put, List.setIfInBounds_toArray, List.set_cons_zero, List.set_cons_succ]
        refine' take_ 17 rfl (by kernel_rfl) (by kernel_rfl) (by kernel_rfl) (fun _ _ _ h => h) (by rfl) (fun wS hSw => ?_) hHeld ?_
        rotate_left
        focus (go_simp; (try with_reducible rfl); done)
        try simp only [Act.put, List.setIfInBounds_toArray, List.set_cons_zero, List.set_cons_succ]
        refine' take_ 18 rfl (by kernel_rfl) (by kernel_rfl) (by kernel_rfl) (fun _ _ _ h => h) (by rfl) (fun wS hSw => ?_) hHeld ?_
        rotate_left
        focus (go_simp; (try with_reducible rfl); done)
        try simp only [Act.put, List.setIfInBounds_toArray, List.set_cons_zero, List.set_cons_succ]
        refine' take_ 19 rfl (by kernel_rfl) (by kernel_rfl) (by kernel_rfl) (fun _ _ _ h => h) (by rfl) (fun wS hSw => ?_) hHeld ?_
        rotate_left
        focus (go_simp; (try with_reducible rfl); done)
        try simp only [Act.put, List.setIfInBounds_toArray, List.set_cons_zero, List.set_cons_succ]
        refine' pass_ 20 rfl (by kernel_rfl) (by kernel_rfl) (by kernel_rfl) (fun _ _ _ h => h) (by rfl) hHeld ?_
        try simp only [Act.put, List.setIfInBounds_toArray, List.set_cons_zero, List.set_cons_succ]
        refine' pass_ 21 rfl (by kernel_rfl) (by kernel_rfl) (by kernel_rfl) (fun _ _ _ h => h) (by rfl) hHeld ?_
        try simp only [Act.put, List.setIfInBounds_toArray, List.set_cons_zero, List.set_cons_succ]
        refine' take_ 22 rfl (by kernel_rfl) (by kernel_rfl) (by kernel_rfl) (fun _ _ _ h => h) (by rfl) (fun wS hSw => ?_) hHeld ?_
        rotate_left
        focus (go_simp; (try with_reducible rfl); done)
        try simp only [Act.put, List.setIfInBounds_toArray, List.set_cons_zero, List.set_cons_succ]
        refine' take_ 23 rfl (by kernel_rfl) (by kernel_rfl) (by kernel_rfl) (fun _ _ _ h => h) (by rfl) (fun wS hSw => ?_) hHeld ?_
        rotate_left
        focus (go_simp; (try with_reducible rfl); done)
        try simp only [Act.put, List.setIfInBounds_toArray, List.set_cons_zero, List.set_cons_succ]
        refine' take_ 24 rfl (by kernel_rfl) (by kernel_rfl) (by kernel_rfl) (fun _ _ _ h => h) (by rfl) (fun wS hSw => ?_) hHeld ?_
        rotate_left
        focus (go_simp; (try with_reducible rfl); done)
        try simp only [Act.put, List.setIfInBounds_toArray, List.set_cons_zero, List.set_cons_succ]
        refine' take_ 25 rfl (by kernel_rfl) (by kernel_rfl) (by kernel_rfl) (fun _ _ _ h => h) (by rfl) (fun wS hSw => ?_) hHeld ?_
        rotate_left
        focus (go_simp; (try with_reducible rfl); done)
        try simp only [Act.put, List.setIfInBounds_toArray, List.set_cons_zero, List.set_cons_succ]
        refine' take_ 27 rfl (by kernel_rfl) (by kernel_rfl) (by kernel_rfl) (fun _ _ _ h => h) (by rfl) (fun wS hSw => ?_) hHeld ?_
        rotate_left
        focus (go_simp; (try with_reducible rfl); done)
        try simp only [Act.put, List.setIfInBounds_toArray, List.set_cons_zero, List.set_cons_succ]
        refine only_ 26 rfl (by kernel_rfl) (by rfl) (fun K hK => ?_)
        refine wp_call_ret 13 _ _ rfl _ (by rfl) (by kernel_rfl) _ (KC.out _ hHeld) (fun Y3 hB => ?_)
        have hH2 := hHeld.trans (hB.mono hHeld.size)
        refine hK.out _ _ hH2 (fun _ => ?_)
        clear hK K hB hHeld
        have hHeld := hH2
        clear hH2
        show wpAnyH _ _ _ _ _ _ _ (Act.put _ (some 70) _) _
        try simp only [Act.put, List.setIfInBounds_toArray, List.set_cons_zero, List.set_cons_succ]
        refine' take_ 28 rfl (by kernel_rfl) (by kernel_rfl) (by kernel_rfl) (fun _ _ _ h => h) (by rfl) (fun wS hSw => ?_) hHeld ?_
        rotate_left
        focus (go_simp; (try with_reducible rfl); done)
        try simp only [Act.put, List.setIfInBounds_toArray, List.set_cons_zero, List.set_cons_succ]
        refine' take_ 29 rfl (by kernel_rfl) (by kernel_rfl) (by kernel_rfl) (fun _ _ _ h => h) (by rfl) (fun wS hSw => ?_) hHeld ?_
        rotate_left
        focus (go_simp; (try with_reducible rfl); done)
        try simp only [Act.put, List.setIfInBounds_toArray, List.set_cons_zero, List.set_cons_succ]
        refine wpAnyH_done (by kernel_rfl) ?_ _
        refine NoPanic.normal ?_
        go_wp2_with fail
        go_roundw
        case rel => exact hdone.out _ hHeld
        case measure =>
          simp [intOf]
          have := HLT.out
          (try omega)
      · have e2 := HN2.out (by omega)
        have hic2 : (M : Int) < (i : Int) := by omega
        have HCB : Hid (∀ X, Below v.heap.size v X → X.cell? ⟨g11, 2, none⟩ = some (.bool false)) := Lib.hid (fun X hX => by have h := VRow.cell (VRow.below R19_2.out hX R19_2.out.lt) 2 _ rfl; rw [e2] at h; exact h)
        clear e2
        refine wp_region_noPanic ?_
        refine wp_region_held_drew (S := fun X => Below v.heap.size v X) (by kernel_rfl) ((Below.refl _ v).drew) (fun hHeld => ?_)
        refine' take_ 0 rfl (by kernel_rfl) (by kernel_rfl) (by kernel_rfl) (fun _ _ _ h => h) (by rfl) (fun wS hSw => run_load_v wS 33 _ g10 rfl _ Try.underlying33 33 (nc n1) (VRow.below R18_2.out hSw R18_2.out.lt) (by kernel_rfl) _ _ _ _ _) hHeld ?_
        try simp only [Act.put, List.setIfInBounds_toArray, List.set_cons_zero, List.set_cons_succ]
        refine' take_ 1 rfl (by kernel_rfl) (by kernel_rfl) (by kernel_rfl) (fun _ _ _ h => h) (by rfl) (fun wS hSw => ?_) hHeld ?_
        rotate_left
        focus (go_simp; (try with_reducible rfl); done)
        try simp only [Act.put, List.setIfInBounds_toArray, List.set_cons_zero, List.set_cons_succ]
        refine' take_ 2 rfl (by kernel_rfl) (by kernel_rfl) (by kernel_rfl) (fun _ _ _ h => h) (by rfl) (fun wS hSw => ?_) hHeld ?_
        rotate_left
        focus (go_simp; (try with_reducible rfl); done)
        try simp only [Act.put, List.setIfInBounds_toArray, List.set_cons_zero, List.set_cons_succ]
        refine only_ 3 rfl (by kernel_rfl) (by rfl) (fun K hK => ?_)
        obtain ⟨Y, hY⟩ : ∃ Y, v.drew = Y := ⟨_, rfl⟩
        rw [hY] at hHeld ⊢
        clear hY
        refine wp_call_ret 18 _ _ rfl _ (by rfl) (by kernel_rfl) _ (KA.out _ (RS_v.out.below hHeld SB_v.out) (Nat.le_trans SB_v.out hHeld.size)) (fun Y2 hB => ?_)
        have hH2 := hHeld.trans (hB.mono hHeld.size)
        refine hK.out _ _ hH2 (fun _ => ?_)
        clear hK K hB hHeld
        have hHeld := hH2
        clear hH2
        show wpAnyH _ _ _ _ _ _ _ (Act.put _ (some 47) _) _
        try simp only [Act.put, List.setIfInBounds_toArray, List.set_cons_zero, List.set_cons_succ]
        refine' take_ 4 rfl (by kernel_rfl) (by kernel_rfl) (by kernel_rfl) (fun _ _ _ h => h) (by rfl) (fun wS hSw => ?_) hHeld ?_
        rotate_left
        focus (go_simp; (try with_reducible rfl); done)
        try simp only [Act.put, List.setIfInBounds_toArray, List.set_cons_zero, List.set_cons_succ]
        refine' take_ 5 rfl (by kernel_rfl) (by kernel_rfl) (by kernel_rfl) (fun _ _ _ h => h) (by rfl) (fun wS hSw => ?_) hHeld ?_
        rotate_left
        focus (go_simp; (try with_reducible rfl); done)
        try simp only [Act.put, List.setIfInBounds_toArray, List.set_cons_zero, List.set_cons_succ]
        refine' take_ 6 rfl (by kernel_rfl) (by kernel_rfl) (by kernel_rfl) (fun _ _ _ h => h) (by rfl) (fun wS hSw => ?_) hHeld ?_
        rotate_left
        focus (go_simp; (try with_reducible rfl); done)
        try simp only [Act.put, List.setIfInBounds_toArray, List.set_cons_zero, List.set_cons_succ]
        refine' take_ 7 rfl (by kernel_rfl) (by kernel_rfl) (by kernel_rfl) (fun _ _ _ h => h) (by rfl) (fun wS hSw => ?_) hHeld ?_
        rotate_left
        focus (go_simp; (try with_reducible rfl); done)
        try simp only [Act.put, List.setIfInBounds_toArray, List.set_cons_zero, List.set_cons_succ]
        refine' take_ 8 rfl (by kernel_rfl) (by kernel_rfl) (by kernel_rfl) (fun _ _ _ h => h) (by rfl) (fun wS hSw => ?_) hHeld ?_
        rotate_left
        focus (go_simp; (try with_reducible rfl); done)
        try simp only [Act.put, List.setIfInBounds_toArray, List.set_cons_zero, List.set_cons_succ]
        refine' take_ 9 rfl (by kernel_rfl) (by kernel_rfl) (by kernel_rfl) (fun _ _ _ h => h) (by rfl) (fun wS hSw => ?_) hHeld ?_
        rotate_left
        focus (go_simp; (try with_reducible rfl); done)
        try simp only [Act.put, List.setIfInBounds_toArray, List.set_cons_zero, List.set_cons_succ]
        refine' pass_ 10 rfl (by kernel_rfl) (by kernel_rfl) (by kernel_rfl) (fun _ _ _ h => h) (by rfl) hHeld ?_
        try simp only [Act.put, List.setIfInBounds_toArray, List.set_cons_zero, List.set_cons_succ]
        refine' pass_ 11 rfl (by kernel_rfl) (by kernel_rfl) (by kernel_rfl) (fun _ _ _ h => h) (by rfl) hHeld ?_
        try simp only [Act.put, List.setIfInBounds_toArray, List.set_cons_zero, List.set_cons_succ]
        refine' pass_ 12 rfl (by kernel_rfl) (by kernel_rfl) (by kernel_rfl) (fun _ _ _ h => h) (by rfl) hHeld ?_
        try simp only [Act.put, List.setIfInBounds_toArray, List.set_cons_zero, List.set_cons_succ]
        refine' take_ 13 rfl (by kernel_rfl) (by kernel_rfl) (by kernel_rfl) (fun _ _ _ h => h) (by rfl) (fun wS hSw => ?_) hHeld ?_
        rotate_left
        focus (go_simp; (try with_reducible rfl); done)
        try simp only [Act.put, List.setIfInBounds_toArray, List.set_cons_zero, List.set_cons_succ]
        refine' take_ 14 rfl (by kernel_rfl) (by kernel_rfl) (by kernel_rfl) (fun _ _ _ h => h) (by rfl) (fun wS hSw => ?_) hHeld ?_
        rotate_left
        focus (go_simp; (try with_reducible rfl); done)
        try simp only [Act.put, List.setIfInBounds_toArray, List.set_cons_zero, List.set_cons_succ]
        refine' take_ 15 rfl (by kernel_rfl) (by kernel_rfl) (by kernel_rfl) (fun _ _ _ h => h) (by rfl) (fun wS hSw => ?_) hHeld ?_
        rotate_left
        focus (go_simp; (try with_reducible rfl); done)
        try simp only [Act.put, List.setIfInBounds_toArray, List.set_cons_zero, List.set_cons_succ]
        refine' take_ 16 rfl (by kernel_rfl) (by kernel_rfl) (by kernel_rfl) (fun _ _ _ h => h) (by rfl) (fun wS hSw => ?_) hHeld ?_
        rotate_left
        focus (go_simp; (try with_reducible rfl); done)
        try simp only [Act.put, List.setIfInBounds_toArray, List.set_cons_zero, List.set_cons_succ]
        refine' take_ 17 rfl (by kernel_rfl) (by kernel_rfl) (by kernel_rfl) (fun _ _ _ h => h) (by rfl) (fun wS hSw => ?_) hHeld ?_
        rotate_left
        focus (go_simp; (try with_reducible rfl); done)
        try simp only [Act.put, List.setIfInBounds_toArray, List.set_cons_zero, List.set_cons_succ]
        refine' take_ 18 rfl (by kernel_rfl) (by kernel_rfl) (by kernel_rfl) (fun _ _ _ h => h) (by rfl) (fun wS hSw => ?_) hHeld ?_
        rotate_left
        focus (go_simp; (try with_reducible rfl); done)
        try simp only [Act.put, List.setIfInBounds_toArray, List.set_cons_zero, List.set_cons_succ]
        refine' take_ 19 rfl (by kernel_rfl) (by kernel_rfl) (by kernel_rfl) (fun _ _ _ h => h) (by rfl) (fun wS hSw => ?_) hHeld ?_
        rotate_left
        focus (go_simp; (try with_reducible rfl); done)
        try simp only [Act.put, List.setIfInBounds_toArray, List.set_cons_zero, List.set_cons_succ]
        refine' take_ 20 rfl (by kernel_rfl) (by kernel_rfl) (by kernel_rfl) (fun _ _ _ h => h) (by rfl) (fun wS hSw => ?_) hHeld ?_
        rotate_left
        focus (go_simp; (try with_reducible rfl); done)
        try simp only [Act.put, List.setIfInBounds_toArray, List.set_cons_zero, List.set_cons_succ]
        refine' take_ 21 rfl (by kernel_rfl) (by kernel_rfl) (by kernel_rfl) (fun _ _ _ h => h) (by rfl) (fun wS hSw => ?_) hHeld ?_
        rotate_left
        focus (have hz := HCB.out _ hSw; go_simp; (try with_reducible rfl); done)
        try simp only [Act.put, List.setIfInBounds_toArray, List.set_cons_zero, List.set_cons_succ]
        refine' take_ 22 rfl (by kernel_rfl) (by kernel_rfl) (by kernel_rfl) (fun _ _ _ h => h) (by rfl) (fun wS hSw => ?_) hHeld ?_
        rotate_left
        focus (go_simp; (try with_reducible rfl); done)
        try simp only [Act.put, List.setIfInBounds_toArray, List.set_cons_zero, List.set_cons_succ]
        refine' take_ 23 rfl (by kernel_rfl) (by kernel_rfl) (by kernel_rfl) (fun _ _ _ h => h) (by rfl) (fun wS hSw => ?_) hHeld ?_
        rotate_left
        focus (go_simp; (try with_reducible rfl); done)
        try simp only [Act.put, List.setIfInBounds_toArray, List.set_cons_zero, List.set_cons_succ]
        refine' take_ 24 rfl (by kernel_rfl) (by kernel_rfl) (by kernel_rfl) (fun _ _ _ h => h) (by rfl) (fun wS hSw => ?_) hHeld ?_
        rotate_left
        focus (go_simp; (try with_reducible rfl); done)
        try simp only [Act.put, List.setIfInBounds_toArray, List.set_cons_zero, List.set_cons_succ]
        refine' take_ 25 rfl (by kernel_rfl) (by kernel_rfl) (by kernel_rfl) (fun _ _ _ h => h) (by rfl) (fun wS hSw => ?_) hHeld ?_
        rotate_left
        focus (go_simp; (try with_reducible rfl); done)
        try simp only [Act.put, List.setIfInBounds_toArray, List.set_cons_zero, List.set_cons_succ]
        refine' take_ 27 rfl (by kernel_rfl) (by kernel_rfl) (by kernel_rfl) (fun _ _ _ h => h) (by rfl) (fun wS hSw => ?_) hHeld ?_
        rotate_left
        focus (go_simp; (try with_reducible rfl); done)
        try simp only [Act.put, List.setIfInBounds_toArray, List.set_cons_zero, List.set_cons_succ]
        refine only_ 26 rfl (by kernel_rfl) (by rfl) (fun K hK => ?_)
        refine wp_call_ret 13 _ _ rfl _ (by rfl) (by kernel_rfl) _ (KC.out _ hHeld) (fun Y3 hB => ?_)
        have hH2 := hHeld.trans (hB.mono hHeld.size)
        refine hK.out _ _ hH2 (fun _ => ?_)
        clear hK K hB hHeld
        have hHeld := hH2
        clear hH2
        show wpAnyH _ _ _ _ _ _ _ (Act.put _ (some 70) _) _
        try simp only [Act.put, List.setIfInBounds_toArray, List.set_cons_zero, List.set_cons_succ]
        refine' take_ 28 rfl (by kernel_rfl) (by kernel_rfl) (by kernel_rfl) (fun _ _ _ h => h) (by rfl) (fun wS hSw => ?_) hHeld ?_
        rotate_left
        focus (go_simp; (try with_reducible rfl); done)
        try simp only [Act.put, List.setIfInBounds_toArray, List.set_cons_zero, List.set_cons_succ]
        refine' take_ 29 rfl (by kernel_rfl) (by kernel_rfl) (by kernel_rfl) (fun _ _ _ h => h) (by rfl) (fun wS hSw => ?_) hHeld ?_
        rotate_left
        focus (go_simp; (try with_reducible rfl); done)
        try simp only [Act.put, List.setIfInBounds_toArray, List.set_cons_zero, List.set_cons_succ]
        refine wpAnyH_done (by kernel_rfl) ?_ _
        refine NoPanic.normal ?_
        go_wp2_with fail
        go_roundw
        case rel => exact hdone.out _ hHeld
        case measure =>
          simp [intOf]
          have := HLT.out
          (try omega)
    · obtain rfl : i = 450 := by omega
      have d1 : ¬ (450 : Int) < 450 := by omega
      have d2 : ¬ ((450 : Nat) : Int) < 450 := by omega
      go_wp2_with fail
      go_ret
      exact ⟨rfl, BB_7.out⟩
end Go.Proofs.Ytimlhckihkjifaa
