/-
  works: by its contract, if the program's functions are what they must be. Made by wip/genworldref.py.
-/
import Derived.Test.YtimlhckihkjifaaOw
import Derived.Test.YtimlhckihkjifaaSelf
namespace Go.Proofs.Ytimlhckihkjifaa
open Go.RowKit
set_option linter.unusedVariables false
set_option linter.unusedSimpArgs false
def exI : In := ⟨5, 1, 66⟩
def exB : In := ⟨5, 1, 0⟩
theorem exI_ok : exI.ok := ⟨by decide, by decide, by decide, by decide, by decide⟩
def exM : List In := [⟨2, 0, 3⟩, ⟨2, 1, 65⟩, ⟨5, 0, 1⟩, ⟨5, 1, 66⟩, ⟨5, 2, 8⟩]
theorem ex_chk : chkL exL = (-1, 0) := by kernel_rfl
theorem ex_chk2 : chkL (exL ++ [exB]) = (4, 28) := by kernel_rfl
theorem ex_set : setR exL exI = exM ∧ setE exL exI = 0 := by constructor <;> kernel_rfl
theorem ex_upto : (uptoL exL 4).length = 2 := by kernel_rfl
theorem guard_now (op : BinOp) (x y : Operand) (p q : Array Value) (w : World) : (eqGuard op 33 x y (.agg p) (.agg q)).run Try.prog w = .ok () w := run_eqGuard_agg w _ _ _ _ _ _ (by kernel_rfl)
theorem guard_inp (op : BinOp) (x y : Operand) (p q : Array Value) (w : World) : (eqGuard op 25 x y (.agg p) (.agg q)).run Try.prog w = .ok () w := run_eqGuard_agg w _ _ _ _ _ _ (by kernel_rfl)
theorem eql_ei (w : World) : (binOp .eql 25 (.agg #[.int .i64 5, .int .i64 1, .int .u8 66]) (.agg #[.int .i64 5, .int .i64 1, .int .u8 66])).run Try.prog w = .ok (.bool true) w := self_eql w _ [.int .i64 5, .int .i64 1, .int .u8 66] rfl (by kernel_rfl)
theorem ex_at1 : atL exL 1 = n0 := by kernel_rfl
theorem eql_n1 (w : World) : (binOp .eql 33 (.agg #[.int .u8 0, .int .u8 0, .bool false, .int .u8 0]) (.agg #[.int .u8 0, .int .u8 0, .bool false, .int .u8 0])).run Try.prog w = .ok (.bool true) w := self_eql w _ [.int .u8 0, .int .u8 0, .bool false, .int .u8 0] rfl (by kernel_rfl)
theorem ex_at2 : atL exL 2 = ⟨3, 0, true, 65⟩ := by kernel_rfl
theorem eql_n2 (w : World) : (binOp .eql 33 (.agg #[.int .u8 3, .int .u8 0, .bool true, .int .u8 65]) (.agg #[.int .u8 3, .int .u8 0, .bool true, .int .u8 65])).run Try.prog w = .ok (.bool true) w := self_eql w _ [.int .u8 3, .int .u8 0, .bool true, .int .u8 65] rfl (by kernel_rfl)
theorem ex_at4 : atL exL 4 = ⟨3, 0, false, 0⟩ := by kernel_rfl
theorem eql_n4 (w : World) : (binOp .eql 33 (.agg #[.int .u8 3, .int .u8 0, .bool false, .int .u8 0]) (.agg #[.int .u8 3, .int .u8 0, .bool false, .int .u8 0])).run Try.prog w = .ok (.bool true) w := self_eql w _ [.int .u8 3, .int .u8 0, .bool false, .int .u8 0] rfl (by kernel_rfl)
theorem ex_at6 : atL exL 6 = ⟨1, 8, false, 0⟩ := by kernel_rfl
theorem eql_n6 (w : World) : (binOp .eql 33 (.agg #[.int .u8 1, .int .u8 8, .bool false, .int .u8 0]) (.agg #[.int .u8 1, .int .u8 8, .bool false, .int .u8 0])).run Try.prog w = .ok (.bool true) w := self_eql w _ [.int .u8 1, .int .u8 8, .bool false, .int .u8 0] rfl (by kernel_rfl)
set_option maxHeartbeats 8000000 in
set_option maxRecDepth 100000 in
theorem works_any (H : WorldOk) (w : World) : Calls Try.prog 15 #[] w fun e w' => e = .returned (.bool true) ∧ Below w.heap.size w w' := by
  have HC := Lib.hid H.check
  have HA := Lib.hid H.at_
  have HS := Lib.hid H.set
  have HU := Lib.hid H.upto
  have KE := Lib.hid example_any
  obtain ⟨i0, hi0, hz0, hz1, hz2⟩ := info_parts ininfo
  have H9 := Lib.hid hz0
  have H10 := Lib.hid hz1
  have H11 := Lib.hid hz2
  have H12 := Lib.hid hi0
  clear hz0 hz1 hz2 hi0
  go_enter Try.func15, Try.ntmps15
  go_upto_region 2 with (go_at_call 20; refine (KE.out _).mono ?_; rintro e w1 ⟨⟨rfl, h1⟩, hB⟩; have O1 := Lib.hid h1; have BB_1 := Lib.hid hB; clear h1 hB)
  obtain ⟨A1, cap1, e1, hrd1⟩ := O1.out.rd (by decide) exL_ok
  simp only [Value.slice.injEq, true_and] at e1
  obtain ⟨rfl, -⟩ := e1
  have RD_1 := Lib.hid hrd1
  have LD : Hid (Rd w1 w1.heap.size (some ⟨w.heap.size, 0, none⟩) exL) := RD_1
  obtain ⟨B1, hB1⟩ : ∃ n, w1.heap.size = n := ⟨_, rfl⟩
  have SB1 := Lib.hid (Nat.le_of_eq hB1.symm)
  rw [hB1] at RD_1
  clear hrd1 hB1 O1 LD
  have K1 : Hid (∀ W : World, Rd W B1 (some ⟨w.heap.size, 0, none⟩) exL → B1 ≤ W.heap.size → Calls Try.prog 17 #[.slice (some ⟨w.heap.size, 0, none⟩) 4 4] W fun e w' => e = .returned (.tuple #[.int .i64 (-1), .int .i64 0]) ∧ Below W.heap.size W w') := Lib.hid (fun W h h2 => by have q := HC.out (some ⟨w.heap.size, 0, none⟩) 4 B1 exL W h h2; rw [ex_chk] at q; exact q)
  have K3 : Hid (∀ W : World, Rd W B1 (some ⟨w.heap.size, 0, none⟩) exL → B1 ≤ W.heap.size → Calls Try.prog 16 #[.slice (some ⟨w.heap.size, 0, none⟩) 4 4, .agg #[.int .i64 5, .int .i64 1, .int .u8 66]] W fun e w' => (∃ A cap, e = .returned (.tuple #[.slice A 5 cap, .int .i64 0]) ∧ Rd w' w'.heap.size A exM) ∧ Below W.heap.size W w') := Lib.hid (fun W h h2 => by have q := HS.out.weak (A := some ⟨w.heap.size, 0, none⟩) (cap := 4) (l := exL) h h2 (by decide) (by decide) exI_ok; rw [ex_set.1, ex_set.2] at q; exact q)
  have K4 : Hid (∀ W : World, Rd W B1 (some ⟨w.heap.size, 0, none⟩) exL → B1 ≤ W.heap.size → Calls Try.prog 19 #[.slice (some ⟨w.heap.size, 0, none⟩) 4 4, .int .i64 4] W fun e w' => (∃ A cap, e = .returned (.slice A 2 cap)) ∧ Below W.heap.size W w') := Lib.hid (fun W h h2 => (HU.out (some ⟨w.heap.size, 0, none⟩) 4 B1 exL 4 W h h2 (by decide) (by decide) (by decide)).mono (fun e w' q => by
    obtain ⟨⟨A, cap, e1, _⟩, q2⟩ := q
    rw [ex_upto] at e1
    exact ⟨⟨A, cap, e1⟩, q2⟩))
  have KA1 : Hid (∀ W : World, Rd W B1 (some ⟨w.heap.size, 0, none⟩) exL → B1 ≤ W.heap.size → Calls Try.prog 18 #[.slice (some ⟨w.heap.size, 0, none⟩) 4 4, .int .i64 1] W fun e w' => e = .returned (.agg #[.int .u8 0, .int .u8 0, .bool false, .int .u8 0]) ∧ Below W.heap.size W w') := Lib.hid (fun W h h2 => by have q := HA.out (some ⟨w.heap.size, 0, none⟩) 4 B1 exL 1 W h h2 (by decide) (by decide) (by decide); rw [ex_at1] at q; exact q)
  have KA2 : Hid (∀ W : World, Rd W B1 (some ⟨w.heap.size, 0, none⟩) exL → B1 ≤ W.heap.size → Calls Try.prog 18 #[.slice (some ⟨w.heap.size, 0, none⟩) 4 4, .int .i64 2] W fun e w' => e = .returned (.agg #[.int .u8 3, .int .u8 0, .bool true, .int .u8 65]) ∧ Below W.heap.size W w') := Lib.hid (fun W h h2 => by have q := HA.out (some ⟨w.heap.size, 0, none⟩) 4 B1 exL 2 W h h2 (by decide) (by decide) (by decide); rw [ex_at2] at q; exact q)
  have KA4 : Hid (∀ W : World, Rd W B1 (some ⟨w.heap.size, 0, none⟩) exL → B1 ≤ W.heap.size → Calls Try.prog 18 #[.slice (some ⟨w.heap.size, 0, none⟩) 4 4, .int .i64 4] W fun e w' => e = .returned (.agg #[.int .u8 3, .int .u8 0, .bool false, .int .u8 0]) ∧ Below W.heap.size W w') := Lib.hid (fun W h h2 => by have q := HA.out (some ⟨w.heap.size, 0, none⟩) 4 B1 exL 4 W h h2 (by decide) (by decide) (by decide); rw [ex_at4] at q; exact q)
  have KA6 : Hid (∀ W : World, Rd W B1 (some ⟨w.heap.size, 0, none⟩) exL → B1 ≤ W.heap.size → Calls Try.prog 18 #[.slice (some ⟨w.heap.size, 0, none⟩) 4 4, .int .i64 6] W fun e w' => e = .returned (.agg #[.int .u8 1, .int .u8 8, .bool false, .int .u8 0]) ∧ Below W.heap.size W w') := Lib.hid (fun W h h2 => by have q := HA.out (some ⟨w.heap.size, 0, none⟩) 4 B1 exL 6 W h h2 (by decide) (by decide) (by decide); rw [ex_at6] at q; exact q)
  go_upto_region 3 with (go_at_call 17; have hc := RD_1; clear hc; refine (K1.out _ RD_1.out SB1.out).mono ?_; rintro e w2 ⟨rfl, hB⟩; have RD_2 := Lib.hid (RD_1.out.below hB SB1.out); have SB2 := Lib.hid (Nat.le_trans SB1.out hB.size); have BB_2 := Lib.hid (BB_1.out.trans (hB.mono BB_1.out.size)); clear hB)
  have KX : Hid (∀ (w4 : World) (v4 : Value), OwnI w4 w2.heap.size v4 (exL ++ [exB]) → Calls Try.prog 17 #[v4] w4 fun e w' => e = .returned (.tuple #[.int .i64 4, .int .i64 28]) ∧ Below w4.heap.size w4 w') := Lib.hid (fun w4 v4 ho => by
    obtain ⟨A, cap, e1, hrd⟩ := ho.rd (by decide) (by
      intro x hx
      rcases List.mem_append.1 hx with h | h
      · exact exL_ok x h
      · rw [List.mem_singleton.1 h]
        exact ⟨by decide, by decide, by decide, by decide, by decide⟩)
    have q := HC.out A cap w4.heap.size (exL ++ [exB]) w4 hrd (Nat.le_refl _)
    rw [ex_chk2, ← e1] at q
    exact q)
  go_upto_region 4 with (first
    | (go_at_call 17; have hc := RD_4; clear hc; refine (KX.out _ _ O4.out).mono ?_; rintro e w5 ⟨rfl, hB⟩; have RD_5 := Lib.hid (RD_4.out.below hB SB4.out); have SB5 := Lib.hid (Nat.le_trans SB4.out hB.size); have BB_5 := Lib.hid (BB_4.out.trans (hB.mono BB_4.out.size)); clear hB)
    | (at_builtin; (with_reducible show wpList _ _ _ (⟨some 18, _, _, _, _, _⟩ :: _) _ _); go_must (refine wpList_append_blk _ rfl (.tmp 15) (.tmp 17) 22 rfl (w2.heap.size) 25 i0 _ 3 24 Try.underlying22 H12.out H9.out H10.out H11.out rfl (by omega) (.slice (some ⟨w2.heap.size, 0, none⟩) 4 4) 4 (exL.flatMap ic) rfl (O3.out.below ((Below.refl w3.heap.size w3).alloc (Nat.le_refl _) _) (Nat.le_refl _)) ⟨w3.heap.size, 0, none⟩ 1 1 (ic exB) rfl rfl (news_in w3 exB _ rfl) (ic_one exB) (by decide) (by decide) (by have := (World.ownsRow.lt O3.out w2.heap.size rfl).2; simp; omega) ?_); intro v4 w4 hown hgrow hblk; have O4 : Hid (OwnI w4 w2.heap.size v4 (exL ++ [exB])) := Lib.hid (OwnI.snoc hown); have hB : Below w2.heap.size w2 w4 := below_gb (((B23.out).alloc (B23.out).size _)) hgrow (Nat.le_trans B23.out.size (by simp)) (fun b hb => (World.ownsRow.lt O3.out b hb).1); have RD_4 := Lib.hid (RD_2.out.below hB SB2.out); have SB4 := Lib.hid (Nat.le_trans SB2.out hB.size); have BB_4 := Lib.hid (BB_2.out.trans (hB.mono BB_2.out.size)); clear hown hgrow hblk hB)
    | (go_at_call 20; have hc := RD_2; clear hc; refine (KE.out _).mono ?_; rintro e w3 ⟨⟨rfl, h3⟩, hB⟩; have O3 := Lib.hid h3; clear h3; have B23 := Lib.hid hB; have RD_3 := Lib.hid (RD_2.out.below hB SB2.out); have SB3 := Lib.hid (Nat.le_trans SB2.out hB.size); have BB_3 := Lib.hid (BB_2.out.trans (hB.mono BB_2.out.size)); clear hB))
  clear O3 O4 B23 KX
  go_upto_region 5 with (go_at_call 16; have hc := RD_5; clear hc; refine (K3.out _ RD_5.out SB5.out).mono ?_; rintro e w6 ⟨⟨mA, mcap, rfl, hm⟩, hB⟩; have RD_6 := Lib.hid (RD_5.out.below hB SB5.out); have SB6 := Lib.hid (Nat.le_trans SB5.out hB.size); have BB_6 := Lib.hid (BB_5.out.trans (hB.mono BB_5.out.size)); have RM_6 := Lib.hid hm; clear hm; clear hB)
  obtain ⟨ma, hma, _, _, hc3, _⟩ := RM_6.out.get (show exM[3]? = some exI from rfl)
  obtain ⟨ma', hma', _, _, _, _, hc41, _⟩ := RM_6.out.get (show exM[4]? = some ⟨5, 2, 8⟩ from rfl)
  subst hma
  obtain rfl : ma = ma' := by simpa using hma'
  have HM3 : Hid (∀ W, Below w6.heap.size w6 W → CellsA W (ma.add (3 * 3)) [.int .i64 5, .int .i64 1, .int .u8 66]) := Lib.hid (fun W hW => by
    have hb := (RM_6.out.below hW (Nat.le_refl _)).get (show exM[3]? = some exI from rfl)
    obtain ⟨z, hz, _, _, hq, _⟩ := hb
    obtain rfl : ma = z := by simpa using hz
    exact hq)
  have HM4 : Hid (∀ W, Below w6.heap.size w6 W → W.cell? ⟨ma.block, ma.off + 12 + 1, none⟩ = some (.int .i64 2)) := Lib.hid (fun W hW => by
    have hb := (RM_6.out.below hW (Nat.le_refl _)).get (show exM[4]? = some ⟨5, 2, 8⟩ from rfl)
    obtain ⟨z, hz, _, _, _, _, hq, _⟩ := hb
    obtain rfl : ma = z := by simpa using hz
    exact hq)
  have B6 : Hid (Below w6.heap.size w6 w6) := Lib.hid (Below.refl _ _)
  clear hma' hc3 hc41 RM_6
  simp only [List.append_eq, List.cons_append, List.nil_append]
  have gg1 := guard_now
  have gg2 := guard_inp
  have ge0 := eql_ei
  have ge1 := eql_n1
  have ge2 := eql_n2
  have ge4 := eql_n4
  have ge6 := eql_n6
  go_wp2_with (first
    | (go_at_call 19; have hc := RD_10; clear hc; refine (K4.out _ RD_10.out SB10.out).mono ?_; rintro e w11 ⟨⟨uA, ucap, rfl⟩, hB⟩; have RD_11 := Lib.hid (RD_10.out.below hB SB10.out); have SB11 := Lib.hid (Nat.le_trans SB10.out hB.size); have BB_11 := Lib.hid (BB_10.out.trans (hB.mono BB_10.out.size)); clear hB)
    | ((with_reducible show wpList _ _ _ (⟨some 78, .load 25 (.tmp 77), _, _, _, _⟩ :: _) _ _); refine BigFrame.wpList_want (by kernel_rfl) (fun K hK => ?_); refine wp_of_run _ (run_load_ad w10 25 _ (ma.add (3 * 3)) rfl _ _ (HM3.out _ B10.out) Try.underlying25 rfl (by kernel_rfl) _ _ _ _ _) (hK _ _ ?_))
    | (go_at_call 18; have hc := RD_9; clear hc; refine (KA6.out _ RD_9.out SB9.out).mono ?_; rintro e w10 ⟨rfl, hB⟩; have RD_10 := Lib.hid (RD_9.out.below hB SB9.out); have SB10 := Lib.hid (Nat.le_trans SB9.out hB.size); have BB_10 := Lib.hid (BB_9.out.trans (hB.mono BB_9.out.size)); have B10 := Lib.hid (B9.out.trans (hB.mono B9.out.size)); have hm4 := HM4.out _ B10.out; clear hB)
    | (go_at_call 18; have hc := RD_8; clear hc; refine (KA4.out _ RD_8.out SB8.out).mono ?_; rintro e w9 ⟨rfl, hB⟩; have RD_9 := Lib.hid (RD_8.out.below hB SB8.out); have SB9 := Lib.hid (Nat.le_trans SB8.out hB.size); have BB_9 := Lib.hid (BB_8.out.trans (hB.mono BB_8.out.size)); have B9 := Lib.hid (B8.out.trans (hB.mono B8.out.size)); clear hB)
    | (go_at_call 18; have hc := RD_7; clear hc; refine (KA2.out _ RD_7.out SB7.out).mono ?_; rintro e w8 ⟨rfl, hB⟩; have RD_8 := Lib.hid (RD_7.out.below hB SB7.out); have SB8 := Lib.hid (Nat.le_trans SB7.out hB.size); have BB_8 := Lib.hid (BB_7.out.trans (hB.mono BB_7.out.size)); have B8 := Lib.hid (B7.out.trans (hB.mono B7.out.size)); clear hB)
    | (go_at_call 18; have hc := RD_6; clear hc; refine (KA1.out _ RD_6.out SB6.out).mono ?_; rintro e w7 ⟨rfl, hB⟩; have RD_7 := Lib.hid (RD_6.out.below hB SB6.out); have SB7 := Lib.hid (Nat.le_trans SB6.out hB.size); have BB_7 := Lib.hid (BB_6.out.trans (hB.mono BB_6.out.size)); have B7 := Lib.hid (B6.out.trans (hB.mono B6.out.size)); clear hB))
  go_ret
  exact ⟨rfl, BB_11.out⟩
end Go.Proofs.Ytimlhckihkjifaa
