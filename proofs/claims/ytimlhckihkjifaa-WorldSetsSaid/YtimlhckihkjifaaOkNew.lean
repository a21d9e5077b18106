/-
  The program's New, Next, Cycle by their contracts. Made by wip/genworldok10.py.
-/
import Derived.Test.YtimlhckihkjifaaOkAt
namespace Go.Proofs.Ytimlhckihkjifaa
open Go.RowKit
set_option linter.unusedVariables false
set_option linter.unusedSimpArgs false
theorem OwnI.rdS {w : World} {base : Nat} {v : Value} {l : List In} (h : OwnI w base v l) (hl : l.length ≤ 9223372036854775807) (hok : ∀ x ∈ l, x.ok) : ∃ A cap, v = .slice A l.length cap ∧ l.length ≤ cap ∧ RdS w (fun k => base ≤ k ∧ k < w.heap.size) A l := by
  obtain ⟨A, cap, rfl, hc, hr⟩ := h.rdc hl hok
  refine ⟨A, cap, rfl, hc, hr.len, hr.ok, fun j x hj => ?_⟩
  obtain ⟨a, rfl, ha, hcc⟩ := hr.at_ j x hj
  refine ⟨a, rfl, ⟨?_, ha⟩, ha, hcc⟩
  rcases h.2 with ⟨h1, h0⟩ | ⟨g, c, cur, h1, hb, _⟩
  · cases h1
  · simp only [Value.slice.injEq, Option.some.injEq] at h1
    rw [h1.1]
    exact hb
theorem RdS.keep {W W' : World} {T : Nat → Prop} {A : Option Addr} {l : List In} (h : RdS W T A l) (hk : ∀ k, T k → W'.heap[k]? = W.heap[k]?) (hz : W.heap.size ≤ W'.heap.size) : RdS W' T A l :=
  ⟨h.len, h.ok, fun j x hj => by
    obtain ⟨a, e, ht, hl, hc⟩ := h.at_ j x hj
    refine ⟨a, e, ht, by omega, fun i u hu => ?_⟩
    have := hc i u hu
    unfold World.cell? at this ⊢
    rw [add_block, add_block, hk _ ht]
    rw [add_block, add_block] at this
    exact this⟩
theorem RdS.mono {W : World} {T T' : Nat → Prop} {A : Option Addr} {l : List In} (h : RdS W T A l) (hk : ∀ k, T k → T' k) : RdS W T' A l :=
  ⟨h.len, h.ok, fun j x hj => by
    obtain ⟨a, e, ht, hl, hc⟩ := h.at_ j x hj
    exact ⟨a, e, hk _ ht, hl, hc⟩⟩
/-- A player: its block, what it plays, behind which cycle it is. -/
structure Ply (W : World) (g : Nat) (l : List In) (n : Nat) (T : Nat → Prop) : Prop where
  ex : ∃ A cap j, VRow W g 61 (plc (lvF (l.take j)) A l.length cap (j : Int) (n : Int) true) ∧ Upt l (n : Int) j ∧ l.length ≤ cap ∧ RdS W T A l
  scr : Scr l
  tg : ¬ T g
  tl : ∀ k, T k → k < W.heap.size
def PL : PlT := fun W a l n S F => ∃ g T, a = ⟨g, 0, none⟩ ∧ Ply W g l n T ∧ (∀ k, S k ↔ k = g ∨ T k) ∧ ∀ k, F k ↔ k = g
theorem Ply.lt {W : World} {g : Nat} {l : List In} {n : Nat} {T : Nat → Prop} (h : Ply W g l n T) : g < W.heap.size := by
  obtain ⟨A, cap, j, hr, _⟩ := h.ex
  exact VRow.lt hr
theorem Ply.keep {W W' : World} {g : Nat} {l : List In} {n : Nat} {T : Nat → Prop} (h : Ply W g l n T) (hg : W'.heap[g]? = W.heap[g]?) (hk : ∀ k, T k → W'.heap[k]? = W.heap[k]?) (hz : W.heap.size ≤ W'.heap.size) : Ply W' g l n T := by
  obtain ⟨⟨A, cap, j, hr, hu, hc, hd⟩, hs, ht, hl⟩ := h
  exact ⟨⟨A, cap, j, hg.trans hr, hu, hc, hd.keep hk hz⟩, hs, ht, fun k hk => Nat.lt_of_lt_of_le (hl k hk) hz⟩
theorem upt_zero {l : List In} (hs : Scr l) : Upt l 0 0 :=
  ⟨Nat.zero_le _, fun q y hq => by omega, fun q y _ hy => by have := (hs.rng y (List.mem_of_getElem? hy)).1; omega⟩
set_option maxHeartbeats 4000000 in
set_option maxRecDepth 100000 in
theorem new_bad (W : World) (A : Option Addr) (cap B : Nat) (l : List In) (hr : Rd W B A l) (hB : B ≤ W.heap.size) (hs : (chkL l).2 ≠ 0) : Calls Try.prog 9 #[.slice A l.length cap] W fun e w' => e = .returned (.pointer none) ∧ Below W.heap.size W w' := by
  have KI := Lib.hid (isScript_any A cap B l W hr hB)
  have e1 : decide ((chkL l).2 = 0) = false := decide_eq_false hs
  rw [e1] at KI
  clear e1 hs hr
  go_enter Try.func9, Try.ntmps9
  go_wp2_with (go_at_call 25; (with_reducible refine (KI.out).mono ?_); rintro e W1 ⟨rfl, hB⟩; have B1 := Lib.hid hB; clear hB)
  go_ret
  exact ⟨rfl, B1.out⟩
set_option maxHeartbeats 4000000 in
set_option maxRecDepth 100000 in
theorem new_any (W : World) (T : Nat → Prop) (A : Option Addr) (cap : Nat) (l : List In) (hr : RdS W T A l) (hs : (chkL l).2 = 0) (hl : l.length ≤ 1000) : Calls Try.prog 9 #[.slice A l.length cap] W fun e W' => (∃ g, e = .returned (.pointer (some ⟨g, 0, none⟩)) ∧ Ply W' g l 0 (fun k => W.heap.size ≤ k ∧ k < g) ∧ W.heap.size ≤ g) ∧ Below W.heap.size W W' := by
  have KI := Lib.hid (isScript_any A cap W.heap.size l W hr.toRd (Nat.le_refl _))
  have e1 : decide ((chkL l).2 = 0) = true := decide_eq_true hs
  rw [e1] at KI
  have HSC := Lib.hid (chk_scr hs)
  have HR := Lib.hid hr
  have HL := Lib.hid hl
  clear e1 hs hr hl
  go_enter Try.func9, Try.ntmps9
  go_upto_region 3 with (go_at_call 25; (with_reducible refine (KI.out).mono ?_); rintro e W1 ⟨rfl, hB⟩; have B1 := Lib.hid hB; clear hB)
  clear KI
  have KC := Lib.hid (clone_any A cap W.heap.size l W1 (HR.out.toRd.below B1.out (Nat.le_refl _)) B1.out.size HL.out)
  go_wp2_with (go_at_call 26; (with_reducible refine (KC.out).mono ?_); rintro e W2 ⟨⟨v, rfl, ho⟩, hB⟩; obtain ⟨A', cap', rfl, hc, hd⟩ := ho.rdS HR.out.len HR.out.ok; have B2 := Lib.hid (B1.out.trans (hB.mono B1.out.size)); have HD := Lib.hid (And.intro hc hd); have HZ := Lib.hid hB.size; clear hB ho hc hd)
  go_ret
  have hb : Below W2.heap.size W2 (W2.alloc (.cells (plc (lvF (l.take 0)) A' l.length cap' ((0 : Nat) : Int) ((0 : Nat) : Int) true).toArray 61)) := (Below.refl _ _).alloc (Nat.le_refl _) _
  refine ⟨⟨W2.heap.size, rfl, ⟨⟨A', cap', 0, VRow.al W2 (plc (lvF (l.take 0)) A' l.length cap' ((0 : Nat) : Int) ((0 : Nat) : Int) true) 61, upt_zero HSC.out, HD.out.1, ((HD.out.2.keep (fun k hk => hb.block k hk.2) hb.size).mono (fun k hk => ⟨Nat.le_trans B1.out.size hk.1, hk.2⟩))⟩, HSC.out, by omega, fun k hk => Nat.lt_of_lt_of_le hk.2 hb.size⟩, Nat.le_trans B1.out.size HZ.out⟩, B2.out.trans (hb.mono B2.out.size)⟩
set_option maxHeartbeats 4000000 in
set_option maxRecDepth 100000 in
theorem next_any (w : World) (g : Nat) (l : List In) (n : Nat) (T : Nat → Prop) (h : Ply w g l n T) (hl : l.length ≤ 9223372036854775807) (hn : n ≤ 1000) : Calls Try.prog 11 #[.pointer (some ⟨g, 0, none⟩)] w fun e W' => (e = .returned (nv (atL l ((n + 1 : Nat) : Int))) ∧ Ply W' g l (n + 1) T) ∧ Only (fun k => k = g) w W' := by
  obtain ⟨⟨A, cap, j, hr, hu, hc, hd⟩, hs, ht, htl⟩ := h
  have HR := Lib.hid hr
  have HU := Lib.hid hu
  have HD := Lib.hid (And.intro hc hd)
  have HS := Lib.hid (And.intro hs (And.intro ht htl))
  have HL := Lib.hid hl
  have LG := Lib.hid (VRow.lt hr)
  clear hr hu hc hd hs ht htl hl
  go_enter Try.func11, Try.ntmps11
  go_upto_region 1 with (fail)
  refine name_one (Q := fun X => Code.wp _ _ _ _ X) ?_
  intro W0 hq1 hB0 hz0
  have R0 : Hid (VRow W0 w.heap.size 33 (nc n0)) := Lib.hid hq1
  have B0 := Lib.hid hB0
  clear hq1 hB0 hz0
  obtain ⟨r, hr0⟩ : ∃ r, w.heap.size = r := ⟨_, rfl⟩
  have LR := Lib.hid (show w.heap.size ≤ r by omega)
  have HRW := Lib.hid hr0
  rw [hr0] at R0 ⊢
  clear hr0
  have RG : Hid (VRow W0 g 61 (plc (lvF (l.take j)) A l.length cap (j : Int) (n : Int) true)) := Lib.hid (VRow.below HR.out B0.out (VRow.lt HR.out))
  have NGR : Hid (g ≠ r ∧ r < W0.heap.size ∧ w.heap.size = r) := Lib.hid (by have h1 := LG.out; have h2 := HRW.out; have h3 := VRow.lt R0.out; omega)
  have z5 := VRow.cell RG.out 5 (.int .i64 (n : Int)) rfl
  have z6 := VRow.cell RG.out 6 (.bool true) rfl
  have hn2 : (n : Int) ≤ 1000 := by omega
  go_upto_region 4 with (first
      | ((with_reducible show wpList _ _ _ (⟨none, .store 3 (.tmp 19) (.tmp 17), _, _, _, _⟩ :: _) _ _); refine wpList_store_c rfl 3 _ _ rfl g 5 (by exact rfl) (.int .i64 ((n : Int) + 1)) (by exact rfl) rfl (by kernel_rfl) 61 _ RG.out (show 5 < 7 by decide) ?_; intro W1 HN HO HB; have RG1 : Hid (VRow W1 g 61 (plc (lvF (l.take j)) A l.length cap (j : Int) ((n : Int) + 1) true)) := HN; have R1 : Hid (VRow W1 r 33 (nc n0)) := Lib.hid ((HO.out _ (Ne.symm NGR.out.1)).trans R0.out); have HO1 := HO; have BG := HB; clear HN HO HB))
  have x5 := VRow.cell RG1.out 5 (.int .i64 ((n : Int) + 1)) rfl
  have RT : Hid (RdS W1 T A l) := Lib.hid (HD.out.2.keep (fun k hk => (HO1.out k (fun e => HS.out.2.1 (by rw [← e]; exact hk))).trans (B0.out.block k (HS.out.2.2 k hk))) (Nat.le_trans B0.out.size BG.out.size))
  have KU := Lib.hid (upTo_any g A cap j ((n : Int) + 1) true l ((n : Int) + 1) T W1 RG1.out RT.out HS.out.2.1 HD.out.1 HL.out HS.out.1 HU.out.le (fun q y hq hy => by have := HU.out.lo q y hq hy; omega) (by omega) (by omega))
  clear z5 z6
  go_wp2_with (first
      | ((with_reducible show wpList _ _ _ (⟨none, .store 33 (.tmp 2) (.tmp 25), _, _, _, _⟩ :: _) _ _); refine wpList_store_v rfl 33 _ _ rfl r (by exact rfl) (nc (atL l ((n : Int) + 1))) (by exact rfl) (by kernel_rfl) (nc_one _) 33 (nc n0) R3.out rfl ?_; intro WZ HN HO HB; have HZ := HN; have HOz := HO; have HSz := Lib.hid HB.out.size; have OSz := Lib.hid (And.intro HB.out.os (And.intro HB.out.tape HB.out.output)); clear HN HO HB)
      | (go_at_call 27; (with_reducible refine (KU.out).mono ?_); rintro e W3 ⟨⟨j', hu, rfl, hrow⟩, ho⟩; have R3 : Hid (VRow W3 r 33 (nc n0)) := Lib.hid ((ho.blk r (VRow.lt R1.out) (Ne.symm NGR.out.1)).trans R1.out); have HJ : Hid (∃ j', Upt l ((n : Int) + 1) j' ∧ VRow W3 g 61 (plc (lvF (l.take j')) A l.length cap (j' : Int) ((n : Int) + 1) true)) := Lib.hid ⟨j', hu, hrow⟩; have HO2 := Lib.hid ho; clear ho hrow hu))
  exact bodyPost_ret (v := nv (atL l ((n : Int) + 1))) (results_c Try.results11 _ _ _ _ _ rfl (run_loadVar_v WZ r 33 _ Try.underlying33 33 (nc (atL l ((n : Int) + 1))) HZ.out (by kernel_rfl))) rfl ⟨⟨rfl, ⟨⟨A, cap, HJ.out.choose, by
    have := HJ.out.choose_spec.2
    exact (HOz.out g NGR.out.1).trans this, HJ.out.choose_spec.1, HD.out.1, HD.out.2.keep (fun k hk => by
      have h1 := HS.out.2.2 k hk
      have h2 : k ≠ g := fun e => HS.out.2.1 (by rw [← e]; exact hk)
      have h3 := NGR.out
      rw [HOz.out k (by omega), HO2.out.blk k (Nat.lt_of_lt_of_le h1 (Nat.le_trans B0.out.size BG.out.size)) h2, HO1.out k h2, B0.out.block k h1]) (Nat.le_trans B0.out.size (Nat.le_trans BG.out.size (Nat.le_trans HO2.out.size HSz.out)))⟩, HS.out.1, HS.out.2.1, fun k hk => Nat.lt_of_lt_of_le (HS.out.2.2 k hk) (Nat.le_trans B0.out.size (Nat.le_trans BG.out.size (Nat.le_trans HO2.out.size HSz.out)))⟩⟩, ⟨OSz.out.1.trans (HO2.out.os.trans (BG.out.os.trans B0.out.os)), OSz.out.2.1.trans (HO2.out.tape.trans (BG.out.tape.trans B0.out.tape)), OSz.out.2.2.trans (HO2.out.output.trans (BG.out.output.trans B0.out.output)), Nat.le_trans B0.out.size (Nat.le_trans BG.out.size (Nat.le_trans HO2.out.size HSz.out)), fun k hk hne => by
      have h3 := NGR.out
      rw [HOz.out k (by omega), HO2.out.blk k (Nat.lt_of_lt_of_le hk (Nat.le_trans B0.out.size BG.out.size)) hne, HO1.out k hne, B0.out.block k hk]⟩⟩
set_option maxHeartbeats 4000000 in
set_option maxRecDepth 100000 in
theorem next_nil (w : World) : Calls Try.prog 11 #[.pointer none] w fun e w' => e = .returned (nv n0) ∧ Below w.heap.size w w' := by
  go_enter Try.func11, Try.ntmps11
  go_upto_region 1 with (fail)
  refine name_one (Q := fun X => Code.wp _ _ _ _ X) ?_
  intro W0 hq1 hB0 hz0
  have R0 : Hid (VRow W0 w.heap.size 33 (nc n0)) := Lib.hid hq1
  have B0 := Lib.hid hB0
  clear hq1 hB0 hz0
  obtain ⟨r, hr0⟩ : ∃ r, w.heap.size = r := ⟨_, rfl⟩
  have LR := Lib.hid (show w.heap.size ≤ r by omega)
  have HRW := Lib.hid hr0
  rw [hr0] at R0 ⊢
  clear hr0
  go_wp2_with (first
      | ((with_reducible show wpList _ _ _ (⟨none, .store 33 (.tmp 2) (.tmp 12), _, _, _, _⟩ :: _) _ _); refine wpList_store_v rfl 33 _ _ rfl r (by exact rfl) (nc (n0)) (by exact rfl) (by kernel_rfl) (nc_one _) 33 (nc n0) R0.out rfl ?_; intro WZ HN HO HB; have HZ := HN; have BZ := Lib.hid (B0.out.trans (HB.out.mono LR.out)); clear HN HO HB))
  exact bodyPost_ret (v := nv (n0)) (results_c Try.results11 _ _ _ _ _ rfl (run_loadVar_v WZ r 33 _ Try.underlying33 33 (nc (n0)) HZ.out (by kernel_rfl))) rfl ⟨rfl, BZ.out⟩
set_option maxRecDepth 100000 in
theorem cycle_any (w : World) (g : Nat) (l : List In) (n : Nat) (T : Nat → Prop) (h : Ply w g l n T) : Calls Try.prog 13 #[.pointer (some ⟨g, 0, none⟩)] w fun e W' => e = .returned (.int .i64 (n : Int)) ∧ Below w.heap.size w W' := by
  obtain ⟨A, cap, j, hr, _⟩ := h.ex
  have z5 := VRow.cell hr 5 (.int .i64 (n : Int)) rfl
  clear hr h
  go_enter Try.func13, Try.ntmps13
  go_wp2
  go_ret
  exact ⟨rfl, Below.refl _ _⟩
theorem cycle_nil (w : World) : Calls Try.prog 13 #[.pointer none] w fun e w' => e = .returned (.int .i64 0) ∧ Below w.heap.size w w' := by
  go_enter Try.func13, Try.ntmps13
  go_wp2
  go_ret
  exact ⟨rfl, Below.refl _ _⟩
end Go.Proofs.Ytimlhckihkjifaa
