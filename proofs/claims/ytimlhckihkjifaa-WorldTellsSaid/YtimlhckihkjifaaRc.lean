/-
  The document's At by its contract. Made by wip/genworldref.py.
-/
import Derived.Test.YtimlhckihkjifaaRb
namespace Go.Proofs.Ytimlhckihkjifaa
open Go.RowKit
set_option linter.unusedVariables false
set_option linter.unusedSimpArgs false
def AtC (f : Nat) : Prop := ∀ (A : Option Addr) (cap B : Nat) (l : List In) (c : Int) (W : World), Rd W B A l → B ≤ W.heap.size → -9223372036854775808 ≤ c → c ≤ 9223372036854775807 → Calls Try.prog f #[.slice A l.length cap, .int .i64 c] W fun e w' => e = .returned (nv (atL l c)) ∧ Below W.heap.size W w'
set_option maxHeartbeats 8000000 in
set_option maxRecDepth 100000 in
theorem rAt_any : AtC 12 := by
  intro A cap B l c w hr hB h0 h1
  have HR := Lib.hid hr
  have HBW := Lib.hid hB
  have KC := Lib.hid (fun W h2 h3 => rCheck_any A cap B l W h2 h3)
  have hlen := hr.len
  clear hr hB
  go_enter Try.func12, Try.ntmps12
  go_upto_region 2 with (fail)
  refine name_two (Q := fun X => Code.wp _ _ _ _ X) ?_
  intro W0 hq1 hq2 hB0
  have RR_0 : Hid (VRow W0 w.heap.size 35 (nc n0)) := Lib.hid hq1
  have RG_0 : Hid (VRow W0 (w.heap.size + 1) 35 (nc n0)) := Lib.hid hq2
  have BB_0 := Lib.hid hB0
  clear hq1 hq2 hB0
  obtain ⟨g, hg⟩ : ∃ g, w.heap.size + 1 = g := ⟨_, rfl⟩
  obtain ⟨r, hr⟩ : ∃ r, w.heap.size = r := ⟨_, rfl⟩
  have LG := Lib.hid (show w.heap.size ≤ g by omega)
  have LR := Lib.hid (show w.heap.size ≤ r by omega)
  have NGR := Lib.hid (show g ≠ r by omega)
  rw [hg] at RG_0 ⊢
  rw [hr] at RR_0 ⊢
  clear hg hr
  have KC0 := Lib.hid (KC.out W0 (HR.out.below BB_0.out HBW.out) (Nat.le_trans HBW.out BB_0.out.size))
  obtain ⟨ci, ce, hce⟩ : ∃ i e, chkL l = (i, e) := ⟨_, _, rfl⟩
  have HCE := Lib.hid hce
  rw [hce] at KC0
  clear hce KC
  go_upto_region 3 with (go_at_call 22; with_reducible refine (KC0.out).mono ?_; rintro e W1 ⟨rfl, hB⟩; have RG_1 := Lib.hid (VRow.below RG_0.out hB RG_0.out.lt); have RR_1 := Lib.hid (VRow.below RR_0.out hB RR_0.out.lt); have BB_1 := Lib.hid (BB_0.out.trans (hB.mono BB_0.out.size)); clear hB RG_0 RR_0 BB_0)
  by_cases hbad : ce ≠ 0
  · have hbi : ((ce : Int) != 0) = true := by simp; omega
    have HE : Hid (atL l c = n0) := Lib.hid (by unfold atL; rw [HCE.out, if_pos (Or.inl hbad)])
    clear hbad
    go_wp2_with (first
      | ((with_reducible show wpList _ _ _ (⟨some 21, .load 35 (.tmp 5), _, _, _, _⟩ :: _) _ _); refine wpList_load_v (by rfl) 35 _ rfl g (by exact rfl) _ Try.underlying35 35 (nc n0) RG_1.out (by kernel_rfl) ?_)
      | ((with_reducible show wpList _ _ _ (⟨none, .store 35 (.tmp 4) (.tmp 21), _, _, _, _⟩ :: _) _ _); refine wpList_store_v rfl 35 _ _ rfl r (by exact rfl) (nc n0) (by exact rfl) (by kernel_rfl) (nc_one _) 35 (nc n0) RR_1.out rfl ?_; intro WZ HN HO HB; have HZ := HN; have BZ := Lib.hid (BB_1.out.trans (HB.out.mono LR.out)); clear HN HO HB))
    exact bodyPost_ret (v := nv n0) (results_c Try.results12 _ _ _ _ _ rfl (run_loadVar_v WZ r 35 _ Try.underlying35 35 (nc n0) HZ.out (by kernel_rfl))) rfl ⟨by first | (rw [HE.out]; done) | (rw [HE.out]; rfl), BZ.out⟩
  obtain rfl : ce = 0 := by omega
  clear hbad
  by_cases hc : c < 1
  · have HE : Hid (atL l c = n0) := Lib.hid (by unfold atL; rw [HCE.out, if_pos (Or.inr hc)])
    go_wp2_with (first
      | ((with_reducible show wpList _ _ _ (⟨some 21, .load 35 (.tmp 5), _, _, _, _⟩ :: _) _ _); refine wpList_load_v (by rfl) 35 _ rfl g (by exact rfl) _ Try.underlying35 35 (nc n0) RG_1.out (by kernel_rfl) ?_)
      | ((with_reducible show wpList _ _ _ (⟨none, .store 35 (.tmp 4) (.tmp 21), _, _, _, _⟩ :: _) _ _); refine wpList_store_v rfl 35 _ _ rfl r (by exact rfl) (nc n0) (by exact rfl) (by kernel_rfl) (nc_one _) 35 (nc n0) RR_1.out rfl ?_; intro WZ HN HO HB; have HZ := HN; have BZ := Lib.hid (BB_1.out.trans (HB.out.mono LR.out)); clear HN HO HB))
    exact bodyPost_ret (v := nv n0) (results_c Try.results12 _ _ _ _ _ rfl (run_loadVar_v WZ r 35 _ Try.underlying35 35 (nc n0) HZ.out (by kernel_rfl))) rfl ⟨by first | (rw [HE.out]; done) | (rw [HE.out]; rfl), BZ.out⟩
  have HE : Hid (atL l c = atF c n0 l) := Lib.hid (by unfold atL; rw [HCE.out, if_neg (by rintro (h | h); exact h rfl; exact hc h)])
  clear KC0
  go_wp2_with fail
  go_loopw [8] (fun iv wr => ∃ (k : Nat) (n : Nw), k ≤ l.length ∧ iv = .int .i64 (k : Int) ∧ atF c n (l.drop k) = atF c n0 l ∧ VRow wr g 35 (nc n) ∧ VRow wr r 35 (nc n0) ∧ Below w.heap.size w wr) (fun iv _ => l.length - (intOf iv).toNat)
  case atStart => exact ⟨0, n0, by omega, rfl, rfl, RG_1.out, RR_1.out, BB_1.out⟩
  case round =>
    clear RG_1 RR_1 BB_1
    obtain ⟨k, n, hk, rfl, hat, q1, q2, q3⟩ := hrel
    obtain ⟨u, hu⟩ : ∃ W, wr = W := ⟨_, rfl⟩
    rw [hu] at q1 q2 q3 ⊢
    have RG_u := Lib.hid q1
    have RR_u := Lib.hid q2
    have BB_u := Lib.hid q3
    have HAT := Lib.hid hat
    clear q1 q2 q3 hat hu
    by_cases hlt : k < l.length
    · obtain ⟨x, hx⟩ : ∃ x, l[k]? = some x := ⟨l[k], List.getElem?_eq_getElem hlt⟩
      obtain ⟨a, hA, hab, hok, hcc, _⟩ := (HR.out.below BB_u.out HBW.out).get hx
      subst hA
      have HC := Lib.hid hcc
      have d1 : (k : Int) < (l.length : Int) := by omega
      have HST : Hid (atF c (stepN c n x) (l.drop (k + 1)) = atF c n0 l) := Lib.hid (by rw [← HAT.out, drop_at l k x hx]; rfl)
      have HLT := Lib.hid hlt
      have hv := hok.v
      clear hx hcc hok hlt hab
      have hcl := True.intro
      by_cases k0 : x.k = 0
      · by_cases hle : x.a ≤ c
        · have e0 : (x.k == 0) = true := by simp; omega
          have e1 : (x.k == 1) = false := by simp; omega
          have e2 : (x.k == 2) = false := by simp; omega
          have HS : Hid (stepN c n x = { n with p := x.v }) := Lib.hid (by have q0 : (x.k = 0 ∧ x.a ≤ c) := (by omega); have q1 : ¬ (x.k = 2 ∧ x.a ≤ c) := (by omega); have q2 : ¬ (x.k = 1 ∧ x.a = c) := (by omega); unfold stepN step1 step2 step3; simp only [if_pos q0, if_neg q1, if_neg q2])
          clear hcl
          go_wp2_with (first
            | ((with_reducible show wpList _ _ _ (⟨none, .store 5 (.tmp 43) (.tmp 42), _, _, _, _⟩ :: _) _ _); refine wpList_store_c rfl 5 _ _ rfl g 0 (by exact rfl) (.int .u8 (x.v : Int)) (by exact rfl) rfl (by kernel_rfl) 35 _ RG_v1.out (show 0 < 4 by decide) ?_; intro v2 HN HO HB; have RG_v2 : Hid (VRow v2 g 35 (nc { n with p := x.v })) := HN; have RX_v2 : Hid (IRow v2 u.heap.size x) := Lib.hid ((HO.out _ NXG.out).trans RX_v1.out); have RR_v2 : Hid (VRow v2 r 35 (nc n0)) := Lib.hid ((HO.out _ NGR.out.symm).trans RR_v1.out); have BB_v2 := Lib.hid (BB_v1.out.trans (HB.out.mono LG.out)); clear x0 x1 x2; have x0 := RX_v2.out.c0; have x1 := RX_v2.out.c1; have x2 := RX_v2.out.c2; clear HN HO HB)
            | ((with_reducible show wpList _ _ _ (⟨none, .store 25 (.tmp 9) (.tmp 31), _, _, _, _⟩ :: _) _ _); refine wpList_store_v rfl 25 _ _ rfl u.heap.size (by exact rfl) (ic x) (by exact rfl) (by kernel_rfl) (ic_one x) 25 [.int .i64 0, .int .i64 0, .int .u8 0] (alloc_at _ _) rfl ?_; intro v1 HN HO HB; have RX_v1 : Hid (IRow v1 u.heap.size x) := HN; have RG_v1 : Hid (VRow v1 g 35 (nc n)) := Lib.hid ((HO.out _ (Nat.ne_of_lt RG_u.out.lt)).trans (VRow.below RG_u.out ((Below.refl _ _).alloc (Nat.le_refl _) _) RG_u.out.lt)); have RR_v1 : Hid (VRow v1 r 35 (nc n0)) := Lib.hid ((HO.out _ (Nat.ne_of_lt RR_u.out.lt)).trans (VRow.below RR_u.out ((Below.refl _ _).alloc (Nat.le_refl _) _) RR_u.out.lt)); have BB_v1 := Lib.hid ((BB_u.out.alloc BB_u.out.size _).trans (HB.out.mono BB_u.out.size)); have NXG := Lib.hid (Nat.ne_of_gt RG_u.out.lt); have x0 := RX_v1.out.c0; have x1 := RX_v1.out.c1; have x2 := RX_v1.out.c2; clear HN HO HB)
            | ((with_reducible show wpList _ _ _ (⟨some 31, .load 25 (.tmp 30), _, _, _, _⟩ :: _) _ _); refine wpList_load_addr rfl 25 _ rfl (a.add (k * 3)) rfl _ _ HC.out Try.underlying25 rfl (by kernel_rfl) ?_))
          go_roundw
          case rel => exact ⟨k + 1, { n with p := x.v }, by have := HLT.out; omega, by go_num, by rw [← HS.out]; exact HST.out, RG_v2.out, RR_v2.out, BB_v2.out⟩
          case measure =>
            simp [intOf]
            have := HLT.out
            (try omega)
        · skip
          have e0 : (x.k == 0) = true := by simp; omega
          have e1 : (x.k == 1) = false := by simp; omega
          have e2 : (x.k == 2) = false := by simp; omega
          have HS : Hid (stepN c n x = n) := Lib.hid (by have q0 : ¬ (x.k = 0 ∧ x.a ≤ c) := (by omega); have q1 : ¬ (x.k = 2 ∧ x.a ≤ c) := (by omega); have q2 : ¬ (x.k = 1 ∧ x.a = c) := (by omega); unfold stepN step1 step2 step3; simp only [if_neg q0, if_neg q1, if_neg q2])
          clear hcl
          go_wp2_with (first
            | ((with_reducible show wpList _ _ _ (⟨none, .store 25 (.tmp 9) (.tmp 31), _, _, _, _⟩ :: _) _ _); refine wpList_store_v rfl 25 _ _ rfl u.heap.size (by exact rfl) (ic x) (by exact rfl) (by kernel_rfl) (ic_one x) 25 [.int .i64 0, .int .i64 0, .int .u8 0] (alloc_at _ _) rfl ?_; intro v1 HN HO HB; have RX_v1 : Hid (IRow v1 u.heap.size x) := HN; have RG_v1 : Hid (VRow v1 g 35 (nc n)) := Lib.hid ((HO.out _ (Nat.ne_of_lt RG_u.out.lt)).trans (VRow.below RG_u.out ((Below.refl _ _).alloc (Nat.le_refl _) _) RG_u.out.lt)); have RR_v1 : Hid (VRow v1 r 35 (nc n0)) := Lib.hid ((HO.out _ (Nat.ne_of_lt RR_u.out.lt)).trans (VRow.below RR_u.out ((Below.refl _ _).alloc (Nat.le_refl _) _) RR_u.out.lt)); have BB_v1 := Lib.hid ((BB_u.out.alloc BB_u.out.size _).trans (HB.out.mono BB_u.out.size)); have NXG := Lib.hid (Nat.ne_of_gt RG_u.out.lt); have x0 := RX_v1.out.c0; have x1 := RX_v1.out.c1; have x2 := RX_v1.out.c2; clear HN HO HB)
            | ((with_reducible show wpList _ _ _ (⟨some 31, .load 25 (.tmp 30), _, _, _, _⟩ :: _) _ _); refine wpList_load_addr rfl 25 _ rfl (a.add (k * 3)) rfl _ _ HC.out Try.underlying25 rfl (by kernel_rfl) ?_))
          go_roundw
          case rel => exact ⟨k + 1, n, by have := HLT.out; omega, by go_num, by rw [← HS.out]; exact HST.out, RG_v1.out, RR_v1.out, BB_v1.out⟩
          case measure =>
            simp [intOf]
            have := HLT.out
            (try omega)
      by_cases k2 : x.k = 2
      · by_cases hle : x.a ≤ c
        · have e0 : (x.k == 0) = false := by simp; omega
          have e1 : (x.k == 1) = false := by simp; omega
          have e2 : (x.k == 2) = true := by simp; omega
          have HS : Hid (stepN c n x = { n with m := x.v }) := Lib.hid (by have q0 : ¬ (x.k = 0 ∧ x.a ≤ c) := (by omega); have q1 : (x.k = 2 ∧ x.a ≤ c) := (by omega); have q2 : ¬ (x.k = 1 ∧ x.a = c) := (by omega); unfold stepN step1 step2 step3; simp only [if_neg q0, if_pos q1, if_neg q2])
          clear hcl
          go_wp2_with (first
            | ((with_reducible show wpList _ _ _ (⟨none, .store 5 (.tmp 55) (.tmp 54), _, _, _, _⟩ :: _) _ _); refine wpList_store_c rfl 5 _ _ rfl g 1 (by exact rfl) (.int .u8 (x.v : Int)) (by exact rfl) rfl (by kernel_rfl) 35 _ RG_v1.out (show 1 < 4 by decide) ?_; intro v2 HN HO HB; have RG_v2 : Hid (VRow v2 g 35 (nc { n with m := x.v })) := HN; have RX_v2 : Hid (IRow v2 u.heap.size x) := Lib.hid ((HO.out _ NXG.out).trans RX_v1.out); have RR_v2 : Hid (VRow v2 r 35 (nc n0)) := Lib.hid ((HO.out _ NGR.out.symm).trans RR_v1.out); have BB_v2 := Lib.hid (BB_v1.out.trans (HB.out.mono LG.out)); clear x0 x1 x2; have x0 := RX_v2.out.c0; have x1 := RX_v2.out.c1; have x2 := RX_v2.out.c2; clear HN HO HB)
            | ((with_reducible show wpList _ _ _ (⟨none, .store 25 (.tmp 9) (.tmp 31), _, _, _, _⟩ :: _) _ _); refine wpList_store_v rfl 25 _ _ rfl u.heap.size (by exact rfl) (ic x) (by exact rfl) (by kernel_rfl) (ic_one x) 25 [.int .i64 0, .int .i64 0, .int .u8 0] (alloc_at _ _) rfl ?_; intro v1 HN HO HB; have RX_v1 : Hid (IRow v1 u.heap.size x) := HN; have RG_v1 : Hid (VRow v1 g 35 (nc n)) := Lib.hid ((HO.out _ (Nat.ne_of_lt RG_u.out.lt)).trans (VRow.below RG_u.out ((Below.refl _ _).alloc (Nat.le_refl _) _) RG_u.out.lt)); have RR_v1 : Hid (VRow v1 r 35 (nc n0)) := Lib.hid ((HO.out _ (Nat.ne_of_lt RR_u.out.lt)).trans (VRow.below RR_u.out ((Below.refl _ _).alloc (Nat.le_refl _) _) RR_u.out.lt)); have BB_v1 := Lib.hid ((BB_u.out.alloc BB_u.out.size _).trans (HB.out.mono BB_u.out.size)); have NXG := Lib.hid (Nat.ne_of_gt RG_u.out.lt); have x0 := RX_v1.out.c0; have x1 := RX_v1.out.c1; have x2 := RX_v1.out.c2; clear HN HO HB)
            | ((with_reducible show wpList _ _ _ (⟨some 31, .load 25 (.tmp 30), _, _, _, _⟩ :: _) _ _); refine wpList_load_addr rfl 25 _ rfl (a.add (k * 3)) rfl _ _ HC.out Try.underlying25 rfl (by kernel_rfl) ?_))
          go_roundw
          case rel => exact ⟨k + 1, { n with m := x.v }, by have := HLT.out; omega, by go_num, by rw [← HS.out]; exact HST.out, RG_v2.out, RR_v2.out, BB_v2.out⟩
          case measure =>
            simp [intOf]
            have := HLT.out
            (try omega)
        · skip
          have e0 : (x.k == 0) = false := by simp; omega
          have e1 : (x.k == 1) = false := by simp; omega
          have e2 : (x.k == 2) = true := by simp; omega
          have HS : Hid (stepN c n x = n) := Lib.hid (by have q0 : ¬ (x.k = 0 ∧ x.a ≤ c) := (by omega); have q1 : ¬ (x.k = 2 ∧ x.a ≤ c) := (by omega); have q2 : ¬ (x.k = 1 ∧ x.a = c) := (by omega); unfold stepN step1 step2 step3; simp only [if_neg q0, if_neg q1, if_neg q2])
          clear hcl
          go_wp2_with (first
            | ((with_reducible show wpList _ _ _ (⟨none, .store 25 (.tmp 9) (.tmp 31), _, _, _, _⟩ :: _) _ _); refine wpList_store_v rfl 25 _ _ rfl u.heap.size (by exact rfl) (ic x) (by exact rfl) (by kernel_rfl) (ic_one x) 25 [.int .i64 0, .int .i64 0, .int .u8 0] (alloc_at _ _) rfl ?_; intro v1 HN HO HB; have RX_v1 : Hid (IRow v1 u.heap.size x) := HN; have RG_v1 : Hid (VRow v1 g 35 (nc n)) := Lib.hid ((HO.out _ (Nat.ne_of_lt RG_u.out.lt)).trans (VRow.below RG_u.out ((Below.refl _ _).alloc (Nat.le_refl _) _) RG_u.out.lt)); have RR_v1 : Hid (VRow v1 r 35 (nc n0)) := Lib.hid ((HO.out _ (Nat.ne_of_lt RR_u.out.lt)).trans (VRow.below RR_u.out ((Below.refl _ _).alloc (Nat.le_refl _) _) RR_u.out.lt)); have BB_v1 := Lib.hid ((BB_u.out.alloc BB_u.out.size _).trans (HB.out.mono BB_u.out.size)); have NXG := Lib.hid (Nat.ne_of_gt RG_u.out.lt); have x0 := RX_v1.out.c0; have x1 := RX_v1.out.c1; have x2 := RX_v1.out.c2; clear HN HO HB)
            | ((with_reducible show wpList _ _ _ (⟨some 31, .load 25 (.tmp 30), _, _, _, _⟩ :: _) _ _); refine wpList_load_addr rfl 25 _ rfl (a.add (k * 3)) rfl _ _ HC.out Try.underlying25 rfl (by kernel_rfl) ?_))
          go_roundw
          case rel => exact ⟨k + 1, n, by have := HLT.out; omega, by go_num, by rw [← HS.out]; exact HST.out, RG_v1.out, RR_v1.out, BB_v1.out⟩
          case measure =>
            simp [intOf]
            have := HLT.out
            (try omega)
      by_cases k1 : x.k = 1
      · by_cases hle : x.a = c
        · have ea : (x.a == c) = true := by simpa using hle
          have e0 : (x.k == 0) = false := by simp; omega
          have e1 : (x.k == 1) = true := by simp; omega
          have e2 : (x.k == 2) = false := by simp; omega
          have HS : Hid (stepN c n x = { n with b := true, y := x.v }) := Lib.hid (by have q0 : ¬ (x.k = 0 ∧ x.a ≤ c) := (by omega); have q1 : ¬ (x.k = 2 ∧ x.a ≤ c) := (by omega); have q2 : (x.k = 1 ∧ x.a = c) := (by omega); unfold stepN step1 step2 step3; simp only [if_neg q0, if_neg q1, if_pos q2])
          clear hcl
          go_wp2_with (first
            | ((with_reducible show wpList _ _ _ (⟨none, .store 5 (.tmp 68) (.tmp 67), _, _, _, _⟩ :: _) _ _); refine wpList_store_c rfl 5 _ _ rfl g 3 (by exact rfl) (.int .u8 (x.v : Int)) (by exact rfl) rfl (by kernel_rfl) 35 _ RG_v2.out (show 3 < 4 by decide) ?_; intro v3 HN HO HB; have RG_v3 : Hid (VRow v3 g 35 (nc { n with b := true, y := x.v })) := HN; have RX_v3 : Hid (IRow v3 u.heap.size x) := Lib.hid ((HO.out _ NXG.out).trans RX_v2.out); have RR_v3 : Hid (VRow v3 r 35 (nc n0)) := Lib.hid ((HO.out _ NGR.out.symm).trans RR_v2.out); have BB_v3 := Lib.hid (BB_v2.out.trans (HB.out.mono LG.out)); clear x0 x1 x2; have x0 := RX_v3.out.c0; have x1 := RX_v3.out.c1; have x2 := RX_v3.out.c2; clear HN HO HB)
            | ((with_reducible show wpList _ _ _ (⟨none, .store 4 (.tmp 65) _, _, _, _, _⟩ :: _) _ _); refine wpList_store_c rfl 4 _ _ rfl g 2 (by exact rfl) (.bool true) (by exact rfl) rfl (by kernel_rfl) 35 _ RG_v1.out (show 2 < 4 by decide) ?_; intro v2 HN HO HB; have RG_v2 : Hid (VRow v2 g 35 (nc { n with b := true })) := HN; have RX_v2 : Hid (IRow v2 u.heap.size x) := Lib.hid ((HO.out _ NXG.out).trans RX_v1.out); have RR_v2 : Hid (VRow v2 r 35 (nc n0)) := Lib.hid ((HO.out _ NGR.out.symm).trans RR_v1.out); have BB_v2 := Lib.hid (BB_v1.out.trans (HB.out.mono LG.out)); clear x0 x1 x2; have x0 := RX_v2.out.c0; have x1 := RX_v2.out.c1; have x2 := RX_v2.out.c2; clear HN HO HB)
            | ((with_reducible show wpList _ _ _ (⟨none, .store 25 (.tmp 9) (.tmp 31), _, _, _, _⟩ :: _) _ _); refine wpList_store_v rfl 25 _ _ rfl u.heap.size (by exact rfl) (ic x) (by exact rfl) (by kernel_rfl) (ic_one x) 25 [.int .i64 0, .int .i64 0, .int .u8 0] (alloc_at _ _) rfl ?_; intro v1 HN HO HB; have RX_v1 : Hid (IRow v1 u.heap.size x) := HN; have RG_v1 : Hid (VRow v1 g 35 (nc n)) := Lib.hid ((HO.out _ (Nat.ne_of_lt RG_u.out.lt)).trans (VRow.below RG_u.out ((Below.refl _ _).alloc (Nat.le_refl _) _) RG_u.out.lt)); have RR_v1 : Hid (VRow v1 r 35 (nc n0)) := Lib.hid ((HO.out _ (Nat.ne_of_lt RR_u.out.lt)).trans (VRow.below RR_u.out ((Below.refl _ _).alloc (Nat.le_refl _) _) RR_u.out.lt)); have BB_v1 := Lib.hid ((BB_u.out.alloc BB_u.out.size _).trans (HB.out.mono BB_u.out.size)); have NXG := Lib.hid (Nat.ne_of_gt RG_u.out.lt); have x0 := RX_v1.out.c0; have x1 := RX_v1.out.c1; have x2 := RX_v1.out.c2; clear HN HO HB)
            | ((with_reducible show wpList _ _ _ (⟨some 31, .load 25 (.tmp 30), _, _, _, _⟩ :: _) _ _); refine wpList_load_addr rfl 25 _ rfl (a.add (k * 3)) rfl _ _ HC.out Try.underlying25 rfl (by kernel_rfl) ?_))
          go_roundw
          case rel => exact ⟨k + 1, { n with b := true, y := x.v }, by have := HLT.out; omega, by go_num, by rw [← HS.out]; exact HST.out, RG_v3.out, RR_v3.out, BB_v3.out⟩
          case measure =>
            simp [intOf]
            have := HLT.out
            (try omega)
        · have ea : (x.a == c) = false := by simpa using hle
          have e0 : (x.k == 0) = false := by simp; omega
          have e1 : (x.k == 1) = true := by simp; omega
          have e2 : (x.k == 2) = false := by simp; omega
          have HS : Hid (stepN c n x = n) := Lib.hid (by have q0 : ¬ (x.k = 0 ∧ x.a ≤ c) := (by omega); have q1 : ¬ (x.k = 2 ∧ x.a ≤ c) := (by omega); have q2 : ¬ (x.k = 1 ∧ x.a = c) := (by omega); unfold stepN step1 step2 step3; simp only [if_neg q0, if_neg q1, if_neg q2])
          clear hcl
          go_wp2_with (first
            | ((with_reducible show wpList _ _ _ (⟨none, .store 25 (.tmp 9) (.tmp 31), _, _, _, _⟩ :: _) _ _); refine wpList_store_v rfl 25 _ _ rfl u.heap.size (by exact rfl) (ic x) (by exact rfl) (by kernel_rfl) (ic_one x) 25 [.int .i64 0, .int .i64 0, .int .u8 0] (alloc_at _ _) rfl ?_; intro v1 HN HO HB; have RX_v1 : Hid (IRow v1 u.heap.size x) := HN; have RG_v1 : Hid (VRow v1 g 35 (nc n)) := Lib.hid ((HO.out _ (Nat.ne_of_lt RG_u.out.lt)).trans (VRow.below RG_u.out ((Below.refl _ _).alloc (Nat.le_refl _) _) RG_u.out.lt)); have RR_v1 : Hid (VRow v1 r 35 (nc n0)) := Lib.hid ((HO.out _ (Nat.ne_of_lt RR_u.out.lt)).trans (VRow.below RR_u.out ((Below.refl _ _).alloc (Nat.le_refl _) _) RR_u.out.lt)); have BB_v1 := Lib.hid ((BB_u.out.alloc BB_u.out.size _).trans (HB.out.mono BB_u.out.size)); have NXG := Lib.hid (Nat.ne_of_gt RG_u.out.lt); have x0 := RX_v1.out.c0; have x1 := RX_v1.out.c1; have x2 := RX_v1.out.c2; clear HN HO HB)
            | ((with_reducible show wpList _ _ _ (⟨some 31, .load 25 (.tmp 30), _, _, _, _⟩ :: _) _ _); refine wpList_load_addr rfl 25 _ rfl (a.add (k * 3)) rfl _ _ HC.out Try.underlying25 rfl (by kernel_rfl) ?_))
          go_roundw
          case rel => exact ⟨k + 1, n, by have := HLT.out; omega, by go_num, by rw [← HS.out]; exact HST.out, RG_v1.out, RR_v1.out, BB_v1.out⟩
          case measure =>
            simp [intOf]
            have := HLT.out
            (try omega)
      · skip
        have e0 : (x.k == 0) = false := by simp; omega
        have e1 : (x.k == 1) = false := by simp; omega
        have e2 : (x.k == 2) = false := by simp; omega
        have HS : Hid (stepN c n x = n) := Lib.hid (by have q0 : ¬ (x.k = 0 ∧ x.a ≤ c) := (by omega); have q1 : ¬ (x.k = 2 ∧ x.a ≤ c) := (by omega); have q2 : ¬ (x.k = 1 ∧ x.a = c) := (by omega); unfold stepN step1 step2 step3; simp only [if_neg q0, if_neg q1, if_neg q2])
        clear hcl
        go_wp2_with (first
          | ((with_reducible show wpList _ _ _ (⟨none, .store 25 (.tmp 9) (.tmp 31), _, _, _, _⟩ :: _) _ _); refine wpList_store_v rfl 25 _ _ rfl u.heap.size (by exact rfl) (ic x) (by exact rfl) (by kernel_rfl) (ic_one x) 25 [.int .i64 0, .int .i64 0, .int .u8 0] (alloc_at _ _) rfl ?_; intro v1 HN HO HB; have RX_v1 : Hid (IRow v1 u.heap.size x) := HN; have RG_v1 : Hid (VRow v1 g 35 (nc n)) := Lib.hid ((HO.out _ (Nat.ne_of_lt RG_u.out.lt)).trans (VRow.below RG_u.out ((Below.refl _ _).alloc (Nat.le_refl _) _) RG_u.out.lt)); have RR_v1 : Hid (VRow v1 r 35 (nc n0)) := Lib.hid ((HO.out _ (Nat.ne_of_lt RR_u.out.lt)).trans (VRow.below RR_u.out ((Below.refl _ _).alloc (Nat.le_refl _) _) RR_u.out.lt)); have BB_v1 := Lib.hid ((BB_u.out.alloc BB_u.out.size _).trans (HB.out.mono BB_u.out.size)); have NXG := Lib.hid (Nat.ne_of_gt RG_u.out.lt); have x0 := RX_v1.out.c0; have x1 := RX_v1.out.c1; have x2 := RX_v1.out.c2; clear HN HO HB)
          | ((with_reducible show wpList _ _ _ (⟨some 31, .load 25 (.tmp 30), _, _, _, _⟩ :: _) _ _); refine wpList_load_addr rfl 25 _ rfl (a.add (k * 3)) rfl _ _ HC.out Try.underlying25 rfl (by kernel_rfl) ?_))
        go_roundw
        case rel => exact ⟨k + 1, n, by have := HLT.out; omega, by go_num, by rw [← HS.out]; exact HST.out, RG_v1.out, RR_v1.out, BB_v1.out⟩
        case measure =>
          simp [intOf]
          have := HLT.out
          (try omega)
    · obtain rfl : k = l.length := by omega
      have d1 : ¬ (l.length : Int) < (l.length : Int) := by omega
      have HF : Hid (atL l c = n) := Lib.hid (by rw [HE.out, ← HAT.out, List.drop_length]; rfl)
      clear hlt hk
      go_wp2_with (first
        | ((with_reducible show wpList _ _ _ (⟨some 69, .load 35 (.tmp 5), _, _, _, _⟩ :: _) _ _); refine wpList_load_v (by rfl) 35 _ rfl g (by exact rfl) _ Try.underlying35 35 (nc n) RG_u.out (by kernel_rfl) ?_)
        | ((with_reducible show wpList _ _ _ (⟨none, .store 35 (.tmp 4) (.tmp 69), _, _, _, _⟩ :: _) _ _); refine wpList_store_v rfl 35 _ _ rfl r (by exact rfl) (nc n) (by exact rfl) (by kernel_rfl) (nc_one _) 35 (nc n0) RR_u.out rfl ?_; intro WZ HN HO HB; have HZ := HN; have BZ := Lib.hid (BB_u.out.trans (HB.out.mono LR.out)); clear HN HO HB))
      exact bodyPost_ret (v := nv n) (results_c Try.results12 _ _ _ _ _ rfl (run_loadVar_v WZ r 35 _ Try.underlying35 35 (nc n) HZ.out (by kernel_rfl))) rfl ⟨by first | (rw [HF.out]; done) | (rw [HF.out]; rfl), BZ.out⟩
end Go.Proofs.Ytimlhckihkjifaa
