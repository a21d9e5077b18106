/-
  The program's At, New, Next, Cycle by their contracts. Made by wip/genworldok9.py.
-/
import Derived.Test.YtimlhckihkjifaaOkUpTo
namespace Go.Proofs.Ytimlhckihkjifaa
open Go.RowKit
set_option linter.unusedVariables false
set_option linter.unusedSimpArgs false
theorem Rd.toS2 {W : World} {B : Nat} {A : Option Addr} {l : List In} (h : Rd W B A l) : RdS W (fun k => k < B) A l :=
  ⟨h.len, h.ok, fun j x hj => by
    obtain ⟨a, e, hl, hc⟩ := h.at_ j x hj
    refine ⟨a, e, hl, ?_, hc⟩
    have := World.block_lt_of_cell? W _ (hc 0 _ rfl)
    rwa [add_block, add_block] at this⟩
set_option maxHeartbeats 4000000 in
set_option maxRecDepth 100000 in
theorem at_any : AtD 18 := by
  intro A cap B l c w hr hB hcap h0 h1
  have HR := Lib.hid hr
  have HBW := Lib.hid hB
  have HCP := Lib.hid hcap
  have HC := Lib.hid (And.intro h0 h1)
  clear hr hB hcap
  go_enter Try.func18, Try.ntmps18
  go_upto_region 1 with (fail)
  refine name_one (Q := fun X => Code.wp _ _ _ _ X) ?_
  intro W0 hq1 hB0 hz0
  have R0 : Hid (VRow W0 w.heap.size 33 (nc n0)) := Lib.hid hq1
  have B0 := Lib.hid hB0
  clear hq1 hB0 hz0
  obtain ⟨r, hr0⟩ : ∃ r, w.heap.size = r := ⟨_, rfl⟩
  have LR := Lib.hid (show w.heap.size ≤ r by omega)
  have HRW := Lib.hid hr0
  rw [hr0] at R0 ⊢
  clear hr0
  by_cases hc : c < 1
  · have HE : Hid (atL l c = n0) := Lib.hid (by unfold atL; rw [if_pos (Or.inr hc)])
    go_wp2_with (first
      | ((with_reducible show wpList _ _ _ (⟨none, .store 33 (.tmp 4) (.tmp 13), _, _, _, _⟩ :: _) _ _); refine wpList_store_v rfl 33 _ _ rfl r (by exact rfl) (nc (n0)) (by exact rfl) (by kernel_rfl) (nc_one _) 33 (nc n0) R0.out rfl ?_; intro WZ HN HO HB; have HZ := HN; have BZ := Lib.hid (B0.out.trans (HB.out.mono LR.out)); clear HN HO HB))
    exact bodyPost_ret (v := nv (n0)) (results_c Try.results18 _ _ _ _ _ rfl (run_loadVar_v WZ r 33 _ Try.underlying33 33 (nc (n0)) HZ.out (by kernel_rfl))) rfl ⟨by rw [HE.out], BZ.out⟩
  have hc2 : ¬ c < 1 := hc
  have KI := Lib.hid (isScript_any A cap B l W0 (HR.out.below B0.out HBW.out) (Nat.le_trans HBW.out B0.out.size))
  by_cases hs : (chkL l).2 = 0
  · have HSC := Lib.hid (chk_scr hs)
    have e1 : decide ((chkL l).2 = 0) = true := decide_eq_true hs
    rw [e1] at KI
    clear e1 hs
    go_upto_region 3 with (go_at_call 25; (with_reducible refine (KI.out).mono ?_); rintro e W1 ⟨rfl, hB⟩; have R1 := Lib.hid (VRow.below R0.out hB (VRow.lt R0.out)); have B1 := Lib.hid (B0.out.trans (hB.mono B0.out.size)); clear hB R0 B0)
    clear KI
    go_upto_region 4 with (first
      | ((with_reducible show wpList _ _ _ (⟨none, .store 61 (.tmp 5) (.tmp 15), _, _, _, _⟩ :: _) _ _); refine wpList_store_v rfl 61 _ _ rfl W1.heap.size (by exact rfl) (plc (lvF (l.take 0)) A l.length cap ((0 : Nat) : Int) 0 false) (by exact rfl) (by kernel_rfl) (by intro u hu; simp only [plc, lvc, List.mem_append, List.mem_cons, List.not_mem_nil, or_false] at hu; rcases hu with (rfl | rfl | rfl) | rfl | rfl | rfl | rfl <;> rfl) 61 (plc ⟨0, 0, 0⟩ none 0 0 0 0 false) (alloc_at _ _) rfl ?_; intro W2 HN HO HB; have RG : Hid (VRow W2 W1.heap.size 61 (plc (lvF (l.take 0)) A l.length cap ((0 : Nat) : Int) 0 false)) := HN; have BG : Hid (Below W1.heap.size W1 W2) := Lib.hid (((Below.refl W1.heap.size W1).alloc (Nat.le_refl _) _).trans HB.out); have R2 := Lib.hid (VRow.below R1.out BG.out (VRow.lt R1.out)); have HG := Lib.hid (VRow.lt R1.out); obtain ⟨g, hg⟩ : ∃ g, W1.heap.size = g := ⟨_, rfl⟩; have HGE := Lib.hid hg; rw [hg] at RG HG ⊢; clear HN HO HB hg))
    have KU := Lib.hid (upTo_any g A cap 0 0 false l c (fun k => k < B) W2 RG.out ((HR.out.below (B1.out.trans (BG.out.mono B1.out.size)) HBW.out).toS2) (by have h0 := HGE.out; have h2 := B1.out.size; have h3 := HBW.out; omega) HCP.out HR.out.len HSC.out (Nat.zero_le _) (fun q y hq => by omega) (by omega) HC.out.2)
    go_wp2_with (first
      | ((with_reducible show wpList _ _ _ (⟨none, .store 33 (.tmp 4) (.tmp 17), _, _, _, _⟩ :: _) _ _); refine wpList_store_v rfl 33 _ _ rfl r (by exact rfl) (nc (atL l c)) (by exact rfl) (by kernel_rfl) (nc_one _) 33 (nc n0) R3.out rfl ?_; intro WZ HN HO HB; have HZ := HN; have BZ := Lib.hid (B3.out.trans (HB.out.mono LR.out)); clear HN HO HB)
      | (go_at_call 27; (with_reducible refine (KU.out).mono ?_); rintro e W3 ⟨⟨j, hu, rfl, hrow⟩, ho⟩; have R3 : Hid (VRow W3 r 33 (nc n0)) := Lib.hid ((ho.blk r (VRow.lt R2.out) (by have := HG.out; omega)).trans R2.out); have B3 : Hid (Below w.heap.size w W3) := Lib.hid ((B1.out.trans (BG.out.mono B1.out.size)).trans (ho.below (fun k hk => by have h1 := HGE.out; have h2 := B1.out.size; omega) (by have h1 := BG.out.size; have h2 := B1.out.size; omega))); clear ho hrow hu))
    exact bodyPost_ret (v := nv (atL l c)) (results_c Try.results18 _ _ _ _ _ rfl (run_loadVar_v WZ r 33 _ Try.underlying33 33 (nc (atL l c)) HZ.out (by kernel_rfl))) rfl ⟨rfl, BZ.out⟩
  · have HE : Hid (atL l c = n0) := Lib.hid (by unfold atL; rw [if_pos (Or.inl hs)])
    have e1 : decide ((chkL l).2 = 0) = false := decide_eq_false hs
    rw [e1] at KI
    clear e1 hs
    go_wp2_with (first
      | ((with_reducible show wpList _ _ _ (⟨none, .store 33 (.tmp 4) (.tmp 13), _, _, _, _⟩ :: _) _ _); refine wpList_store_v rfl 33 _ _ rfl r (by exact rfl) (nc (n0)) (by exact rfl) (by kernel_rfl) (nc_one _) 33 (nc n0) R1.out rfl ?_; intro WZ HN HO HB; have HZ := HN; have BZ := Lib.hid (B1.out.trans (HB.out.mono LR.out)); clear HN HO HB)
      | (go_at_call 25; (with_reducible refine (KI.out).mono ?_); rintro e W1 ⟨rfl, hB⟩; have R1 := Lib.hid (VRow.below R0.out hB (VRow.lt R0.out)); have B1 := Lib.hid (B0.out.trans (hB.mono B0.out.size)); clear hB R0 B0))
    exact bodyPost_ret (v := nv (n0)) (results_c Try.results18 _ _ _ _ _ rfl (run_loadVar_v WZ r 33 _ Try.underlying33 33 (nc (n0)) HZ.out (by kernel_rfl))) rfl ⟨by rw [HE.out], BZ.out⟩
end Go.Proofs.Ytimlhckihkjifaa
