/-
  alike: a bank is like itself, if the program's All is what it must be. Made by wip/genbankplays.py. Made by wip/genbankref.py.
-/
import Derived.Test.YtkodoldkfeopdaaGreatBe
import Derived.Test.YtkodoldkfeopdaaGreatRk
import Derived.Deep.DeepCutAuto
import Derived.Deep.CutBlock
namespace Go.Proofs.YtkodoldkfeopdaaGreat
open Go.RowKit
set_option linter.unusedVariables false
set_option maxRecDepth 100000
theorem run_load_dv {P : Program} {a : Act} (w : World) (ty : TypeId) (x : Operand) (g off : Nat) (hx : a.eval x = .pointer (some ⟨g, off, none⟩)) (fs : Array Field) (hu : P.underlying ty = some (.struct fs)) (cs : List Value) (hi : (P.info? ty).map (·.size) = some cs.length) (hc : CellsAt w g off cs)
    (dst : Option Tmp) (type : TypeId) (pos : String) (after : Array Edge) (guard : Option (Nat × Bool)) : (execOp a.eval ⟨dst, .load ty x, type, pos, after, guard⟩).run P w = .ok (.value (.agg cs.toArray)) w :=
  run_load_at w ty x g off hx cs _ hc hu rfl hi dst type pos after guard
theorem run_load_ar {P : Program} {a : Act} (w : World) (ty : TypeId) (x : Operand) (g off : Nat) (hx : a.eval x = .pointer (some ⟨g, off, none⟩)) (n : Nat) (e : TypeId) (hu : P.underlying ty = some (.array n e)) (cs : List Value) (hi : (P.info? ty).map (·.size) = some cs.length) (hc : CellsAt w g off cs)
    (dst : Option Tmp) (type : TypeId) (pos : String) (after : Array Edge) (guard : Option (Nat × Bool)) : (execOp a.eval ⟨dst, .load ty x, type, pos, after, guard⟩).run P w = .ok (.value (.agg cs.toArray)) w :=
  run_load_at w ty x g off hx cs _ hc hu rfl hi dst type pos after guard
theorem ub_one (b : Bk) : ∀ u ∈ ucs b, u.oneCell' = true := Ua.uc_one _ _ _ _ _ _ _
theorem VRow.ot {X X' : World} {t : TypeId} {g r : Nat} {vs : List Value} (h : VRow X g t vs) (ho : ∀ j, j ≠ r → X'.heap[j]? = X.heap[j]?) (hr : g ≠ r) : VRow X' g t vs := (ho g hr).trans h
theorem VRow.at_ {w : World} {g off : Nat} {t : TypeId} {cs p ds s : List Value} (h : VRow w g t cs) (e : cs = p ++ (ds ++ s)) (hp : p.length = off) : CellsAt w g off ds := fun j v hj => by
  refine h.cell (off + j) v ?_
  rw [e, List.getElem?_append_right (by omega), hp, Nat.add_sub_cancel_left, List.getElem?_append_left (List.getElem?_eq_some_iff.1 hj).1]
  exact hj
set_option maxHeartbeats 16000000 in
theorem alike_any (H : BankOk) (b : Bk) (w : World) (h : b.ok) : Calls Tryz.prog 5 #[bv b, bv b] w fun e w' => e = .returned (.bool true) ∧ Below w.heap.size w w' := by
  have K1 := Lib.hid (fun W => H.all b W h)
  have K2 := Lib.hid (fun W => rAllB_any b W h)
  obtain ⟨x0, x1, x2, x3, x4, x5, x6, x7, hx⟩ := eight_pad b.R
  obtain ⟨y0, y1, y2, y3, y4, y5, y6, y7, hy⟩ := eight_pad b.T
  have HUC : Hid (ucs b = [.int .i64 ((b.R.length : Nat) : Int), .int .u8 (x0 : Int), .int .u8 (x1 : Int), .int .u8 (x2 : Int), .int .u8 (x3 : Int), .int .u8 (x4 : Int), .int .u8 (x5 : Int), .int .u8 (x6 : Int), .int .u8 (x7 : Int), .int .i64 ((b.T.length : Nat) : Int), .int .u8 (y0 : Int), .int .u8 (y1 : Int), .int .u8 (y2 : Int), .int .u8 (y3 : Int), .int .u8 (y4 : Int), .int .u8 (y5 : Int), .int .u8 (y6 : Int), .int .u8 (y7 : Int), .bool b.l, .int .u8 (b.c : Int), .int .u8 (b.k : Int)]) := Lib.hid (by unfold ucs; rw [hx, hy]; rfl)
  have hby := fun (l : List Nat) (z0 z1 z2 z3 z4 z5 z6 z7 : Nat) (hz : Ua.pad l = [z0, z1, z2, z3, z4, z5, z6, z7]) (W : World) => (by have q := eql_by W l; rw [hz] at q; exact q : (binOp .eql 25 (.agg (Ua.bvals [z0, z1, z2, z3, z4, z5, z6, z7]).toArray) (.agg (Ua.bvals [z0, z1, z2, z3, z4, z5, z6, z7]).toArray)).run Tryz.prog W = .ok (.bool true) W)
  have HEX := Lib.hid (hby b.R x0 x1 x2 x3 x4 x5 x6 x7 hx)
  have HEY := Lib.hid (hby b.T y0 y1 y2 y3 y4 y5 y6 y7 hy)
  have HEX2 : Hid (∀ W : World, (Op.equalIn 10000 25 (.agg (Ua.bvals [x0, x1, x2, x3, x4, x5, x6, x7]).toArray) (.agg (Ua.bvals [x0, x1, x2, x3, x4, x5, x6, x7]).toArray)).run Tryz.prog W = .ok true W) := Lib.hid (fun W => self_eq W _ _ rfl (by kernel_rfl))
  have HEY2 : Hid (∀ W : World, (Op.equalIn 10000 25 (.agg (Ua.bvals [y0, y1, y2, y3, y4, y5, y6, y7]).toArray) (.agg (Ua.bvals [y0, y1, y2, y3, y4, y5, y6, y7]).toArray)).run Tryz.prog W = .ok true W) := Lib.hid (fun W => self_eq W _ _ rfl (by kernel_rfl))
  have HEA2 : Hid (∀ W : World, (Op.equalIn 10000 69 (.agg (allB b).toArray) (.agg (allB b).toArray)).run Tryz.prog W = .ok true W) := Lib.hid (fun W => self_eq W _ _ rfl (by kernel_rfl))
  clear hx hy hby
  unfold bv
  go_enter Tryz.func5, Tryz.ntmps5
  go_upto_region 1 with (fail)
  refine name_two (Q := fun X => Code.wp _ _ _ _ X) ?_
  intro W0 hq1 hq2 hB0
  have RA_0 : Hid (BRow W0 w.heap.size 37 b) := Lib.hid hq1
  have RR_0 : Hid (BRow W0 (w.heap.size + 1) 46 b) := Lib.hid hq2
  have BB_0 := Lib.hid hB0
  clear hq1 hq2 hB0
  obtain ⟨g, hg⟩ : ∃ g, w.heap.size = g := ⟨_, rfl⟩
  obtain ⟨r, hr⟩ : ∃ r, w.heap.size + 1 = r := ⟨_, rfl⟩
  rw [hr] at RR_0 ⊢
  rw [hg] at RA_0 ⊢
  clear hr hg
  (try simp only [Act.put])
  go_cut [5, 6] (fun xv yv wx => ∃ (Wc : World) (b1 b2 : Nat), Wc = wx ∧ xv = .pointer (some ⟨b1, 0, none⟩) ∧ yv = .pointer (some ⟨b2, 0, none⟩) ∧ VRow Wc b1 29 (ucs b) ∧ VRow Wc b2 41 (ucs b) ∧ Below W0.heap.size W0 Wc)
  case first =>
    as_aux_lemma =>
      refine wp_region_noPanic ?_
      refine wp_region_held_drew (S := fun X => Below W0.heap.size W0 X) (by kernel_rfl) ((Below.refl _ W0).drew) (fun hHeld => ?_)
      refine' take_ 0 rfl (by kernel_rfl) (by kernel_rfl) (by kernel_rfl) (fun _ _ _ h => h) (by rfl) (fun wS hSw => ?_) hHeld ?_
      rotate_left
      focus (go_simp; (try with_reducible rfl); done)
      try simp only [Act.put, List.setIfInBounds_toArray, List.set_cons_zero, List.set_cons_succ]
      refine' take_ 1 rfl (by kernel_rfl) (by kernel_rfl) (by kernel_rfl) (fun _ _ _ h => h) (by rfl) (fun wS hSw => run_load_dv wS 29 _ g 3 rfl _ Tryz.underlying29 (ucs b) (by rw [ucs_length]; kernel_rfl) ((BRow.below RA_0.out hSw RA_0.out.lt).ua) _ _ _ _ _) hHeld ?_
      try simp only [Act.put, List.setIfInBounds_toArray, List.set_cons_zero, List.set_cons_succ]
      refine' take_ 2 rfl (by kernel_rfl) (by kernel_rfl) (by kernel_rfl) (fun _ _ _ h => h) (by rfl) (fun wS hSw => ?_) hHeld ?_
      rotate_left
      focus (go_simp; (try with_reducible rfl); done)
      try simp only [Act.put, List.setIfInBounds_toArray, List.set_cons_zero, List.set_cons_succ]
      refine' take_ 3 rfl (by kernel_rfl) (by kernel_rfl) (by kernel_rfl) (fun _ _ _ h => h) (by rfl) (fun wS hSw => run_load_dv wS 41 _ r 3 rfl _ Tryz.underlying41 (ucs b) (by rw [ucs_length]; kernel_rfl) ((BRow.below RR_0.out hSw RR_0.out.lt).ua) _ _ _ _ _) hHeld ?_
      try simp only [Act.put, List.setIfInBounds_toArray, List.set_cons_zero, List.set_cons_succ]
      obtain ⟨Y0, hY0⟩ : ∃ Y, W0.drew = Y := ⟨_, rfl⟩
      rw [hY0] at hHeld ⊢
      clear hY0
      refine wpAnyH_ready (rs := [4, 5]) (by kernel_rfl) (by simp) ?_
      refine AllReadyH.cons rfl (fun K hK => ?_) ?_
      · rw [if_pos (by rfl)]
        refine wp_of_run (w' := Y0.alloc (.cells (ucs bare).toArray 29)) (.pointer (some ⟨Y0.heap.size, 0, none⟩)) (by kernel_rfl) ?_
        have h1 := hHeld.alloc hHeld.size (.cells (ucs bare).toArray 29)
        have rb : VRow _ Y0.heap.size 29 (ucs bare) := alloc_at Y0 (.cells (ucs bare).toArray 29)
        have lrb := hHeld.size
        refine hK.out _ _ h1 (fun _ => ?_)
        clear hK K
        generalize Y0.alloc (.cells (ucs bare).toArray 29) = Y1 at *
        show wpAnyH _ _ _ _ _ _ _ (Act.put _ (some 5) _) _
        try simp only [Act.put, List.setIfInBounds_toArray, List.set_cons_zero, List.set_cons_succ]
        refine only_ 5 rfl (by kernel_rfl) (by rfl) (fun K hK => ?_)
        refine wp_of_run (w' := Y1.alloc (.cells (ucs bare).toArray 41)) (.pointer (some ⟨Y1.heap.size, 0, none⟩)) (by kernel_rfl) ?_
        have h2 := h1.alloc h1.size (.cells (ucs bare).toArray 41)
        have ru : VRow _ Y1.heap.size 41 (ucs bare) := alloc_at Y1 (.cells (ucs bare).toArray 41)
        have lru := h1.size
        have ne := Nat.ne_of_lt rb.lt
        have rb2 := VRow.below rb ((Below.refl _ _).alloc (Nat.le_refl _) (.cells (ucs bare).toArray 41)) rb.lt
        refine hK.out _ _ h2 (fun _ => ?_)
        clear hK K
        generalize Y1.alloc (.cells (ucs bare).toArray 41) = Y2 at *
        show wpAnyH _ _ _ _ _ _ _ (Act.put _ (some 6) _) _
        try simp only [Act.put, List.setIfInBounds_toArray, List.set_cons_zero, List.set_cons_succ]
        refine only_ 6 rfl (by kernel_rfl) (by rfl) (fun K hK => ?_)
        refine wp_store_v 29 _ _ rfl (Y0.heap.size) rfl (ucs b) rfl (by rw [ucs_length]; kernel_rfl) (ub_one b) 29 (ucs bare) rb2 (by rw [ucs_length, ucs_length]) ?_
        intro Y3 HN HO HB
        have h3 := h2.trans (HB.out.mono lrb)
        have rb3 := HN.out
        have ru3 := VRow.ot ru HO.out (Ne.symm ne)
        refine hK.out _ _ h3 (fun _ => ?_)
        clear hK K HN HO HB
        show wpAnyH _ _ _ _ _ _ _ (Act.put _ none _) _
        try simp only [Act.put]
        refine only_ 7 rfl (by kernel_rfl) (by rfl) (fun K hK => ?_)
        refine wp_store_v 41 _ _ rfl (Y1.heap.size) rfl (ucs b) rfl (by rw [ucs_length]; kernel_rfl) (ub_one b) 41 (ucs bare) ru3 (by rw [ucs_length, ucs_length]) ?_
        intro Y4 HN HO HB
        have h4 := h3.trans (HB.out.mono lru)
        have ru4 := HN.out
        have rb4 := VRow.ot rb3 HO.out ne
        refine hK.out _ _ h4 (fun _ => ?_)
        clear hK K HN HO HB
        show wpAnyH _ _ _ _ _ _ _ (Act.put _ none _) _
        try simp only [Act.put]
        refine wpAnyH_done (by kernel_rfl) ?_ _
        refine NoPanic.normal ?_
        go_wp2_with fail
        go_meet
        case rel => exact ⟨_, _, _, rfl, rfl, rfl, rb4, ru4, h4⟩
      refine AllReadyH.cons rfl (fun K hK => ?_) ?_
      · rw [if_pos (by rfl)]
        refine wp_of_run (w' := Y0.alloc (.cells (ucs bare).toArray 41)) (.pointer (some ⟨Y0.heap.size, 0, none⟩)) (by kernel_rfl) ?_
        have h1 := hHeld.alloc hHeld.size (.cells (ucs bare).toArray 41)
        have ru : VRow _ Y0.heap.size 41 (ucs bare) := alloc_at Y0 (.cells (ucs bare).toArray 41)
        have lru := hHeld.size
        refine hK.out _ _ h1 (fun _ => ?_)
        clear hK K
        generalize Y0.alloc (.cells (ucs bare).toArray 41) = Y1 at *
        show wpAnyH _ _ _ _ _ _ _ (Act.put _ (some 6) _) _
        try simp only [Act.put, List.setIfInBounds_toArray, List.set_cons_zero, List.set_cons_succ]
        refine only_ 4 rfl (by kernel_rfl) (by rfl) (fun K hK => ?_)
        refine wp_of_run (w' := Y1.alloc (.cells (ucs bare).toArray 29)) (.pointer (some ⟨Y1.heap.size, 0, none⟩)) (by kernel_rfl) ?_
        have h2 := h1.alloc h1.size (.cells (ucs bare).toArray 29)
        have rb : VRow _ Y1.heap.size 29 (ucs bare) := alloc_at Y1 (.cells (ucs bare).toArray 29)
        have lrb := h1.size
        have ne := Nat.ne_of_lt ru.lt
        have ru2 := VRow.below ru ((Below.refl _ _).alloc (Nat.le_refl _) (.cells (ucs bare).toArray 29)) ru.lt
        refine hK.out _ _ h2 (fun _ => ?_)
        clear hK K
        generalize Y1.alloc (.cells (ucs bare).toArray 29) = Y2 at *
        show wpAnyH _ _ _ _ _ _ _ (Act.put _ (some 5) _) _
        try simp only [Act.put, List.setIfInBounds_toArray, List.set_cons_zero, List.set_cons_succ]
        refine only_ 6 rfl (by kernel_rfl) (by rfl) (fun K hK => ?_)
        refine wp_store_v 29 _ _ rfl (Y1.heap.size) rfl (ucs b) rfl (by rw [ucs_length]; kernel_rfl) (ub_one b) 29 (ucs bare) rb (by rw [ucs_length, ucs_length]) ?_
        intro Y3 HN HO HB
        have h3 := h2.trans (HB.out.mono lrb)
        have rb3 := HN.out
        have ru3 := VRow.ot ru2 HO.out (Ne.symm (Ne.symm ne))
        refine hK.out _ _ h3 (fun _ => ?_)
        clear hK K HN HO HB
        show wpAnyH _ _ _ _ _ _ _ (Act.put _ none _) _
        try simp only [Act.put]
        refine only_ 7 rfl (by kernel_rfl) (by rfl) (fun K hK => ?_)
        refine wp_store_v 41 _ _ rfl (Y0.heap.size) rfl (ucs b) rfl (by rw [ucs_length]; kernel_rfl) (ub_one b) 41 (ucs bare) ru3 (by rw [ucs_length, ucs_length]) ?_
        intro Y4 HN HO HB
        have h4 := h3.trans (HB.out.mono lru)
        have ru4 := HN.out
        have rb4 := VRow.ot rb3 HO.out (Ne.symm ne)
        refine hK.out _ _ h4 (fun _ => ?_)
        clear hK K HN HO HB
        show wpAnyH _ _ _ _ _ _ _ (Act.put _ none _) _
        try simp only [Act.put]
        refine wpAnyH_done (by kernel_rfl) ?_ _
        refine NoPanic.normal ?_
        go_wp2_with fail
        go_meet
        case rel => exact ⟨_, _, _, rfl, rfl, rfl, rb4, ru4, h4⟩
      exact AllReadyH.nil
  case rest =>
    obtain ⟨W5, g5, g6, rfl, rfl, rfl, q1, q2, q3⟩ := hcut
    have RA_1 := Lib.hid (BRow.below RA_0.out q3 RA_0.out.lt)
    have RR_1 := Lib.hid (BRow.below RR_0.out q3 RR_0.out.lt)
    have BB_1 := Lib.hid (BB_0.out.trans (q3.mono BB_0.out.size))
    have R5_1 := Lib.hid q1
    have R6_1 := Lib.hid q2
    clear q1 q2 q3 RA_0 RR_0 BB_0
    go_wp2_with fail
    go_loopw [7] (fun iv wx => ∃ j : Nat, j ≤ 2 ∧ iv = .int .i64 (j : Int) ∧ BRow wx g 37 b ∧ BRow wx r 46 b ∧ VRow wx g5 29 (ucs b) ∧ VRow wx g6 41 (ucs b) ∧ Below w.heap.size w wx) (fun iv _ => 2 - (intOf iv).toNat)
    case atStart => exact ⟨0, by omega, rfl, RA_1.out, RR_1.out, R5_1.out, R6_1.out, BB_1.out⟩
    case round =>
      clear RA_1 RR_1 R5_1 R6_1 BB_1
      obtain ⟨j, hj, rfl, q1, q2, q3, q4, q5⟩ := hrel
      obtain ⟨u, hu⟩ : ∃ W, wr = W := ⟨_, rfl⟩
      rw [hu] at q1 q2 q3 q4 q5 ⊢
      clear hu
      have RA := Lib.hid q1
      have RR := Lib.hid q2
      have R5 := Lib.hid q3
      have R6 := Lib.hid q4
      have BB := Lib.hid q5
      clear q1 q2 q3 q4 q5
      obtain rfl | rfl | rfl : j = 0 ∨ j = 1 ∨ j = 2 := by omega
      · as_aux_lemma =>
          have G0 : Hid (∀ X, Below u.heap.size u X → X.cell? ⟨g, 24, none⟩ = some (.int .u16 (b.t0.a : Int))) := Lib.hid (fun X h => (BRow.below RA.out h RA.out.lt).ta 0 _ rfl)
          have G1 : Hid (∀ X, Below u.heap.size u X → X.cell? ⟨g, 25, none⟩ = some (.int .u16 (b.t0.b : Int))) := Lib.hid (fun X h => (BRow.below RA.out h RA.out.lt).ta 1 _ rfl)
          have G2 : Hid (∀ X, Below u.heap.size u X → X.cell? ⟨g, 26, none⟩ = some (.int .u16 (b.t0.c : Int))) := Lib.hid (fun X h => (BRow.below RA.out h RA.out.lt).ta 2 _ rfl)
          go_upto_region 5 with fail
          refine wp_region_noPanic ?_
          refine wp_region_held_drew (S := fun X => Below u.heap.size u X) (by kernel_rfl) ((Below.refl _ u).drew) (fun hHeld => ?_)
          refine' take_ 0 rfl (by kernel_rfl) (by kernel_rfl) (by kernel_rfl) (fun _ _ _ h => h) (by rfl) (fun wS hSw => ?_) hHeld ?_
          rotate_left
          focus (go_simp; (try with_reducible rfl); done)
          try simp only [Act.put, List.setIfInBounds_toArray, List.set_cons_zero, List.set_cons_succ]
          refine' take_ 1 rfl (by kernel_rfl) (by kernel_rfl) (by kernel_rfl) (fun _ _ _ h => h) (by rfl) (fun wS hSw => ?_) hHeld ?_
          rotate_left
          focus (go_simp; (try with_reducible rfl); done)
          try simp only [Act.put, List.setIfInBounds_toArray, List.set_cons_zero, List.set_cons_succ]
          refine' take_ 2 rfl (by kernel_rfl) (by kernel_rfl) (by kernel_rfl) (fun _ _ _ h => h) (by rfl) (fun wS hSw => ?_) hHeld ?_
          rotate_left
          focus (go_simp; (try with_reducible rfl); done)
          try simp only [Act.put, List.setIfInBounds_toArray, List.set_cons_zero, List.set_cons_succ]
          refine' take_ 3 rfl (by kernel_rfl) (by kernel_rfl) (by kernel_rfl) (fun _ _ _ h => h) (by rfl) (fun wS hSw => ?_) hHeld ?_
          rotate_left
          focus (go_simp; (try with_reducible rfl); done)
          try simp only [Act.put, List.setIfInBounds_toArray, List.set_cons_zero, List.set_cons_succ]
          refine' take_ 4 rfl (by kernel_rfl) (by kernel_rfl) (by kernel_rfl) (fun _ _ _ h => h) (by rfl) (fun wS hSw => ?_) hHeld ?_
          rotate_left
          focus (have hz := G0.out _ hSw; go_simp; (try with_reducible rfl); done)
          try simp only [Act.put, List.setIfInBounds_toArray, List.set_cons_zero, List.set_cons_succ]
          refine' take_ 5 rfl (by kernel_rfl) (by kernel_rfl) (by kernel_rfl) (fun _ _ _ h => h) (by rfl) (fun wS hSw => ?_) hHeld ?_
          rotate_left
          focus (go_simp; (try with_reducible rfl); done)
          try simp only [Act.put, List.setIfInBounds_toArray, List.set_cons_zero, List.set_cons_succ]
          refine' take_ 6 rfl (by kernel_rfl) (by kernel_rfl) (by kernel_rfl) (fun _ _ _ h => h) (by rfl) (fun wS hSw => ?_) hHeld ?_
          rotate_left
          focus (go_simp; (try with_reducible rfl); done)
          try simp only [Act.put, List.setIfInBounds_toArray, List.set_cons_zero, List.set_cons_succ]
          refine' take_ 7 rfl (by kernel_rfl) (by kernel_rfl) (by kernel_rfl) (fun _ _ _ h => h) (by rfl) (fun wS hSw => ?_) hHeld ?_
          rotate_left
          focus (go_simp; (try with_reducible rfl); done)
          try simp only [Act.put, List.setIfInBounds_toArray, List.set_cons_zero, List.set_cons_succ]
          refine' take_ 8 rfl (by kernel_rfl) (by kernel_rfl) (by kernel_rfl) (fun _ _ _ h => h) (by rfl) (fun wS hSw => ?_) hHeld ?_
          rotate_left
          focus (go_simp; (try with_reducible rfl); done)
          try simp only [Act.put, List.setIfInBounds_toArray, List.set_cons_zero, List.set_cons_succ]
          refine' take_ 9 rfl (by kernel_rfl) (by kernel_rfl) (by kernel_rfl) (fun _ _ _ h => h) (by rfl) (fun wS hSw => ?_) hHeld ?_
          rotate_left
          focus (have hz := G1.out _ hSw; go_simp; (try with_reducible rfl); done)
          try simp only [Act.put, List.setIfInBounds_toArray, List.set_cons_zero, List.set_cons_succ]
          refine' take_ 10 rfl (by kernel_rfl) (by kernel_rfl) (by kernel_rfl) (fun _ _ _ h => h) (by rfl) (fun wS hSw => ?_) hHeld ?_
          rotate_left
          focus (go_simp; (try with_reducible rfl); done)
          try simp only [Act.put, List.setIfInBounds_toArray, List.set_cons_zero, List.set_cons_succ]
          refine' take_ 11 rfl (by kernel_rfl) (by kernel_rfl) (by kernel_rfl) (fun _ _ _ h => h) (by rfl) (fun wS hSw => ?_) hHeld ?_
          rotate_left
          focus (go_simp; (try with_reducible rfl); done)
          try simp only [Act.put, List.setIfInBounds_toArray, List.set_cons_zero, List.set_cons_succ]
          refine' take_ 12 rfl (by kernel_rfl) (by kernel_rfl) (by kernel_rfl) (fun _ _ _ h => h) (by rfl) (fun wS hSw => ?_) hHeld ?_
          rotate_left
          focus (go_simp; (try with_reducible rfl); done)
          try simp only [Act.put, List.setIfInBounds_toArray, List.set_cons_zero, List.set_cons_succ]
          refine' take_ 13 rfl (by kernel_rfl) (by kernel_rfl) (by kernel_rfl) (fun _ _ _ h => h) (by rfl) (fun wS hSw => ?_) hHeld ?_
          rotate_left
          focus (go_simp; (try with_reducible rfl); done)
          try simp only [Act.put, List.setIfInBounds_toArray, List.set_cons_zero, List.set_cons_succ]
          refine' take_ 14 rfl (by kernel_rfl) (by kernel_rfl) (by kernel_rfl) (fun _ _ _ h => h) (by rfl) (fun wS hSw => ?_) hHeld ?_
          rotate_left
          focus (have hz := G2.out _ hSw; go_simp; (try with_reducible rfl); done)
          try simp only [Act.put, List.setIfInBounds_toArray, List.set_cons_zero, List.set_cons_succ]
          refine' take_ 15 rfl (by kernel_rfl) (by kernel_rfl) (by kernel_rfl) (fun _ _ _ h => h) (by rfl) (fun wS hSw => ?_) hHeld ?_
          rotate_left
          focus (go_simp; (try with_reducible rfl); done)
          try simp only [Act.put, List.setIfInBounds_toArray, List.set_cons_zero, List.set_cons_succ]
          refine' take_ 16 rfl (by kernel_rfl) (by kernel_rfl) (by kernel_rfl) (fun _ _ _ h => h) (by rfl) (fun wS hSw => ?_) hHeld ?_
          rotate_left
          focus (go_simp; (try with_reducible rfl); done)
          try simp only [Act.put, List.setIfInBounds_toArray, List.set_cons_zero, List.set_cons_succ]
          refine' take_ 17 rfl (by kernel_rfl) (by kernel_rfl) (by kernel_rfl) (fun _ _ _ h => h) (by rfl) (fun wS hSw => ?_) hHeld ?_
          rotate_left
          focus (go_simp; (try with_reducible rfl); done)
          try simp only [Act.put, List.setIfInBounds_toArray, List.set_cons_zero, List.set_cons_succ]
          refine' take_ 18 rfl (by kernel_rfl) (by kernel_rfl) (by kernel_rfl) (fun _ _ _ h => h) (by rfl) (fun wS hSw => ?_) hHeld ?_
          rotate_left
          focus (go_simp; (try with_reducible rfl); done)
          try simp only [Act.put, List.setIfInBounds_toArray, List.set_cons_zero, List.set_cons_succ]
          refine' take_ 19 rfl (by kernel_rfl) (by kernel_rfl) (by kernel_rfl) (fun _ _ _ h => h) (by rfl) (fun wS hSw => run_load_dv wS 42 _ r 24 rfl _ Tryz.underlying42 (Ti.tc b.t0) (by rw [show (Ti.tc b.t0).length = 3 from rfl]; kernel_rfl) ((BRow.below RR.out hSw RR.out.lt).ta) _ _ _ _ _) hHeld ?_
          try simp only [Act.put, List.setIfInBounds_toArray, List.set_cons_zero, List.set_cons_succ]
          have hneq : ∀ W, (binOp .neq 42 (.agg #[.int .u16 (b.t0.a : Int), .int .u16 (b.t0.b : Int), .int .u16 (b.t0.c : Int)]) (.agg (Ti.tc b.t0).toArray)).run Tryz.prog W = .ok (.bool false) W := fun W => neq_rti W b.t0
          refine' take_ 20 rfl (by kernel_rfl) (by kernel_rfl) (by kernel_rfl) (fun _ _ _ h => h) (by rfl) (fun wS hSw => ?_) hHeld ?_
          rotate_left
          focus (go_simp; (try rw [guard_rti]); (try go_simp); (try rw [hneq]); (try go_simp); (try with_reducible rfl); done)
          try simp only [Act.put, List.setIfInBounds_toArray, List.set_cons_zero, List.set_cons_succ]
          refine wpAnyH_done (by kernel_rfl) ?_ _
          refine NoPanic.normal ?_
          clear hneq G0 G1 G2
          go_wp2_with fail
          go_roundw
          case rel => exact ⟨1, by omega, by go_num, BRow.below RA.out hHeld RA.out.lt, BRow.below RR.out hHeld RR.out.lt, VRow.below R5.out hHeld R5.out.lt, VRow.below R6.out hHeld R6.out.lt, BB.out.trans (hHeld.mono BB.out.size)⟩
          case measure =>
            simp [intOf]
      · as_aux_lemma =>
          have G0 : Hid (∀ X, Below u.heap.size u X → X.cell? ⟨g, 27, none⟩ = some (.int .u16 (b.t1.a : Int))) := Lib.hid (fun X h => (BRow.below RA.out h RA.out.lt).tb 0 _ rfl)
          have G1 : Hid (∀ X, Below u.heap.size u X → X.cell? ⟨g, 28, none⟩ = some (.int .u16 (b.t1.b : Int))) := Lib.hid (fun X h => (BRow.below RA.out h RA.out.lt).tb 1 _ rfl)
          have G2 : Hid (∀ X, Below u.heap.size u X → X.cell? ⟨g, 29, none⟩ = some (.int .u16 (b.t1.c : Int))) := Lib.hid (fun X h => (BRow.below RA.out h RA.out.lt).tb 2 _ rfl)
          go_upto_region 5 with fail
          refine wp_region_noPanic ?_
          refine wp_region_held_drew (S := fun X => Below u.heap.size u X) (by kernel_rfl) ((Below.refl _ u).drew) (fun hHeld => ?_)
          refine' take_ 0 rfl (by kernel_rfl) (by kernel_rfl) (by kernel_rfl) (fun _ _ _ h => h) (by rfl) (fun wS hSw => ?_) hHeld ?_
          rotate_left
          focus (go_simp; (try with_reducible rfl); done)
          try simp only [Act.put, List.setIfInBounds_toArray, List.set_cons_zero, List.set_cons_succ]
          refine' take_ 1 rfl (by kernel_rfl) (by kernel_rfl) (by kernel_rfl) (fun _ _ _ h => h) (by rfl) (fun wS hSw => ?_) hHeld ?_
          rotate_left
          focus (go_simp; (try with_reducible rfl); done)
          try simp only [Act.put, List.setIfInBounds_toArray, List.set_cons_zero, List.set_cons_succ]
          refine' take_ 2 rfl (by kernel_rfl) (by kernel_rfl) (by kernel_rfl) (fun _ _ _ h => h) (by rfl) (fun wS hSw => ?_) hHeld ?_
          rotate_left
          focus (go_simp; (try with_reducible rfl); done)
          try simp only [Act.put, List.setIfInBounds_toArray, List.set_cons_zero, List.set_cons_succ]
          refine' take_ 3 rfl (by kernel_rfl) (by kernel_rfl) (by kernel_rfl) (fun _ _ _ h => h) (by rfl) (fun wS hSw => ?_) hHeld ?_
          rotate_left
          focus (go_simp; (try with_reducible rfl); done)
          try simp only [Act.put, List.setIfInBounds_toArray, List.set_cons_zero, List.set_cons_succ]
          refine' take_ 4 rfl (by kernel_rfl) (by kernel_rfl) (by kernel_rfl) (fun _ _ _ h => h) (by rfl) (fun wS hSw => ?_) hHeld ?_
          rotate_left
          focus (have hz := G0.out _ hSw; go_simp; (try with_reducible rfl); done)
          try simp only [Act.put, List.setIfInBounds_toArray, List.set_cons_zero, List.set_cons_succ]
          refine' take_ 5 rfl (by kernel_rfl) (by kernel_rfl) (by kernel_rfl) (fun _ _ _ h => h) (by rfl) (fun wS hSw => ?_) hHeld ?_
          rotate_left
          focus (go_simp; (try with_reducible rfl); done)
          try simp only [Act.put, List.setIfInBounds_toArray, List.set_cons_zero, List.set_cons_succ]
          refine' take_ 6 rfl (by kernel_rfl) (by kernel_rfl) (by kernel_rfl) (fun _ _ _ h => h) (by rfl) (fun wS hSw => ?_) hHeld ?_
          rotate_left
          focus (go_simp; (try with_reducible rfl); done)
          try simp only [Act.put, List.setIfInBounds_toArray, List.set_cons_zero, List.set_cons_succ]
          refine' take_ 7 rfl (by kernel_rfl) (by kernel_rfl) (by kernel_rfl) (fun _ _ _ h => h) (by rfl) (fun wS hSw => ?_) hHeld ?_
          rotate_left
          focus (go_simp; (try with_reducible rfl); done)
          try simp only [Act.put, List.setIfInBounds_toArray, List.set_cons_zero, List.set_cons_succ]
          refine' take_ 8 rfl (by kernel_rfl) (by kernel_rfl) (by kernel_rfl) (fun _ _ _ h => h) (by rfl) (fun wS hSw => ?_) hHeld ?_
          rotate_left
          focus (go_simp; (try with_reducible rfl); done)
          try simp only [Act.put, List.setIfInBounds_toArray, List.set_cons_zero, List.set_cons_succ]
          refine' take_ 9 rfl (by kernel_rfl) (by kernel_rfl) (by kernel_rfl) (fun _ _ _ h => h) (by rfl) (fun wS hSw => ?_) hHeld ?_
          rotate_left
          focus (have hz := G1.out _ hSw; go_simp; (try with_reducible rfl); done)
          try simp only [Act.put, List.setIfInBounds_toArray, List.set_cons_zero, List.set_cons_succ]
          refine' take_ 10 rfl (by kernel_rfl) (by kernel_rfl) (by kernel_rfl) (fun _ _ _ h => h) (by rfl) (fun wS hSw => ?_) hHeld ?_
          rotate_left
          focus (go_simp; (try with_reducible rfl); done)
          try simp only [Act.put, List.setIfInBounds_toArray, List.set_cons_zero, List.set_cons_succ]
          refine' take_ 11 rfl (by kernel_rfl) (by kernel_rfl) (by kernel_rfl) (fun _ _ _ h => h) (by rfl) (fun wS hSw => ?_) hHeld ?_
          rotate_left
          focus (go_simp; (try with_reducible rfl); done)
          try simp only [Act.put, List.setIfInBounds_toArray, List.set_cons_zero, List.set_cons_succ]
          refine' take_ 12 rfl (by kernel_rfl) (by kernel_rfl) (by kernel_rfl) (fun _ _ _ h => h) (by rfl) (fun wS hSw => ?_) hHeld ?_
          rotate_left
          focus (go_simp; (try with_reducible rfl); done)
          try simp only [Act.put, List.setIfInBounds_toArray, List.set_cons_zero, List.set_cons_succ]
          refine' take_ 13 rfl (by kernel_rfl) (by kernel_rfl) (by kernel_rfl) (fun _ _ _ h => h) (by rfl) (fun wS hSw => ?_) hHeld ?_
          rotate_left
          focus (go_simp; (try with_reducible rfl); done)
          try simp only [Act.put, List.setIfInBounds_toArray, List.set_cons_zero, List.set_cons_succ]
          refine' take_ 14 rfl (by kernel_rfl) (by kernel_rfl) (by kernel_rfl) (fun _ _ _ h => h) (by rfl) (fun wS hSw => ?_) hHeld ?_
          rotate_left
          focus (have hz := G2.out _ hSw; go_simp; (try with_reducible rfl); done)
          try simp only [Act.put, List.setIfInBounds_toArray, List.set_cons_zero, List.set_cons_succ]
          refine' take_ 15 rfl (by kernel_rfl) (by kernel_rfl) (by kernel_rfl) (fun _ _ _ h => h) (by rfl) (fun wS hSw => ?_) hHeld ?_
          rotate_left
          focus (go_simp; (try with_reducible rfl); done)
          try simp only [Act.put, List.setIfInBounds_toArray, List.set_cons_zero, List.set_cons_succ]
          refine' take_ 16 rfl (by kernel_rfl) (by kernel_rfl) (by kernel_rfl) (fun _ _ _ h => h) (by rfl) (fun wS hSw => ?_) hHeld ?_
          rotate_left
          focus (go_simp; (try with_reducible rfl); done)
          try simp only [Act.put, List.setIfInBounds_toArray, List.set_cons_zero, List.set_cons_succ]
          refine' take_ 17 rfl (by kernel_rfl) (by kernel_rfl) (by kernel_rfl) (fun _ _ _ h => h) (by rfl) (fun wS hSw => ?_) hHeld ?_
          rotate_left
          focus (go_simp; (try with_reducible rfl); done)
          try simp only [Act.put, List.setIfInBounds_toArray, List.set_cons_zero, List.set_cons_succ]
          refine' take_ 18 rfl (by kernel_rfl) (by kernel_rfl) (by kernel_rfl) (fun _ _ _ h => h) (by rfl) (fun wS hSw => ?_) hHeld ?_
          rotate_left
          focus (go_simp; (try with_reducible rfl); done)
          try simp only [Act.put, List.setIfInBounds_toArray, List.set_cons_zero, List.set_cons_succ]
          refine' take_ 19 rfl (by kernel_rfl) (by kernel_rfl) (by kernel_rfl) (fun _ _ _ h => h) (by rfl) (fun wS hSw => run_load_dv wS 42 _ r 27 rfl _ Tryz.underlying42 (Ti.tc b.t1) (by rw [show (Ti.tc b.t1).length = 3 from rfl]; kernel_rfl) ((BRow.below RR.out hSw RR.out.lt).tb) _ _ _ _ _) hHeld ?_
          try simp only [Act.put, List.setIfInBounds_toArray, List.set_cons_zero, List.set_cons_succ]
          have hneq : ∀ W, (binOp .neq 42 (.agg #[.int .u16 (b.t1.a : Int), .int .u16 (b.t1.b : Int), .int .u16 (b.t1.c : Int)]) (.agg (Ti.tc b.t1).toArray)).run Tryz.prog W = .ok (.bool false) W := fun W => neq_rti W b.t1
          refine' take_ 20 rfl (by kernel_rfl) (by kernel_rfl) (by kernel_rfl) (fun _ _ _ h => h) (by rfl) (fun wS hSw => ?_) hHeld ?_
          rotate_left
          focus (go_simp; (try rw [guard_rti]); (try go_simp); (try rw [hneq]); (try go_simp); (try with_reducible rfl); done)
          try simp only [Act.put, List.setIfInBounds_toArray, List.set_cons_zero, List.set_cons_succ]
          refine wpAnyH_done (by kernel_rfl) ?_ _
          refine NoPanic.normal ?_
          clear hneq G0 G1 G2
          go_wp2_with fail
          go_roundw
          case rel => exact ⟨2, by omega, by go_num, BRow.below RA.out hHeld RA.out.lt, BRow.below RR.out hHeld RR.out.lt, VRow.below R5.out hHeld R5.out.lt, VRow.below R6.out hHeld R6.out.lt, BB.out.trans (hHeld.mono BB.out.size)⟩
          case measure =>
            simp [intOf]
      · as_aux_lemma =>
          have h5 := R5.out
          have h6 := R6.out
          rw [HUC.out] at h5 h6
          have G0 : Hid (∀ X, Below u.heap.size u X → X.cell? ⟨g, 0, none⟩ = some (.int .u8 (b.o : Int))) := Lib.hid (fun X h => (BRow.below RA.out h RA.out.lt).gp 0 _ rfl)
          have G1 : Hid (∀ X, Below u.heap.size u X → X.cell? ⟨g, 1, none⟩ = some (.int .u8 (b.i : Int))) := Lib.hid (fun X h => (BRow.below RA.out h RA.out.lt).gp 1 _ rfl)
          have G2 : Hid (∀ X, Below u.heap.size u X → X.cell? ⟨g, 2, none⟩ = some (.int .u8 (b.e : Int))) := Lib.hid (fun X h => (BRow.below RA.out h RA.out.lt).gp 2 _ rfl)
          have Q0 : Hid (∀ X, Below u.heap.size u X → X.cell? ⟨g, 30, none⟩ = some (.int .u8 (b.q.m : Int))) := Lib.hid (fun X h => (BRow.below RA.out h RA.out.lt).iq 0 _ rfl)
          have Q1 : Hid (∀ X, Below u.heap.size u X → X.cell? ⟨g, 31, none⟩ = some (.int .u8 (b.q.p : Int))) := Lib.hid (fun X h => (BRow.below RA.out h RA.out.lt).iq 1 _ rfl)
          have U0 : Hid (∀ X, Below u.heap.size u X → X.cell? ⟨g5, 0, none⟩ = some (.int .i64 ((b.R.length : Nat) : Int))) := Lib.hid (fun X h => (VRow.below h5 h (VRow.lt h5)).cell 0 _ rfl)
          have U9 : Hid (∀ X, Below u.heap.size u X → X.cell? ⟨g5, 9, none⟩ = some (.int .i64 ((b.T.length : Nat) : Int))) := Lib.hid (fun X h => (VRow.below h5 h (VRow.lt h5)).cell 9 _ rfl)
          have U18 : Hid (∀ X, Below u.heap.size u X → X.cell? ⟨g5, 18, none⟩ = some (.bool b.l)) := Lib.hid (fun X h => (VRow.below h5 h (VRow.lt h5)).cell 18 _ rfl)
          have U19 : Hid (∀ X, Below u.heap.size u X → X.cell? ⟨g5, 19, none⟩ = some (.int .u8 (b.c : Int))) := Lib.hid (fun X h => (VRow.below h5 h (VRow.lt h5)).cell 19 _ rfl)
          have U20 : Hid (∀ X, Below u.heap.size u X → X.cell? ⟨g5, 20, none⟩ = some (.int .u8 (b.k : Int))) := Lib.hid (fun X h => (VRow.below h5 h (VRow.lt h5)).cell 20 _ rfl)
          have UA1 : Hid (∀ X, Below u.heap.size u X → CellsAt X g5 1 (Ua.bvals [x0, x1, x2, x3, x4, x5, x6, x7])) := Lib.hid (fun X h => VRow.at_ (VRow.below h5 h (VRow.lt h5)) (p := [_]) (s := _) rfl rfl)
          have UA10 : Hid (∀ X, Below u.heap.size u X → CellsAt X g5 10 (Ua.bvals [y0, y1, y2, y3, y4, y5, y6, y7])) := Lib.hid (fun X h => VRow.at_ (VRow.below h5 h (VRow.lt h5)) (p := [_, _, _, _, _, _, _, _, _, _]) (s := _) rfl rfl)
          have V0 : Hid (∀ X, Below u.heap.size u X → X.cell? ⟨g6, 0, none⟩ = some (.int .i64 ((b.R.length : Nat) : Int))) := Lib.hid (fun X h => (VRow.below h6 h (VRow.lt h6)).cell 0 _ rfl)
          have V9 : Hid (∀ X, Below u.heap.size u X → X.cell? ⟨g6, 9, none⟩ = some (.int .i64 ((b.T.length : Nat) : Int))) := Lib.hid (fun X h => (VRow.below h6 h (VRow.lt h6)).cell 9 _ rfl)
          have V18 : Hid (∀ X, Below u.heap.size u X → X.cell? ⟨g6, 18, none⟩ = some (.bool b.l)) := Lib.hid (fun X h => (VRow.below h6 h (VRow.lt h6)).cell 18 _ rfl)
          have V19 : Hid (∀ X, Below u.heap.size u X → X.cell? ⟨g6, 19, none⟩ = some (.int .u8 (b.c : Int))) := Lib.hid (fun X h => (VRow.below h6 h (VRow.lt h6)).cell 19 _ rfl)
          have V20 : Hid (∀ X, Below u.heap.size u X → X.cell? ⟨g6, 20, none⟩ = some (.int .u8 (b.k : Int))) := Lib.hid (fun X h => (VRow.below h6 h (VRow.lt h6)).cell 20 _ rfl)
          have VA1 : Hid (∀ X, Below u.heap.size u X → CellsAt X g6 1 (Ua.bvals [x0, x1, x2, x3, x4, x5, x6, x7])) := Lib.hid (fun X h => VRow.at_ (VRow.below h6 h (VRow.lt h6)) (p := [_]) (s := _) rfl rfl)
          have VA10 : Hid (∀ X, Below u.heap.size u X → CellsAt X g6 10 (Ua.bvals [y0, y1, y2, y3, y4, y5, y6, y7])) := Lib.hid (fun X h => VRow.at_ (VRow.below h6 h (VRow.lt h6)) (p := [_, _, _, _, _, _, _, _, _, _]) (s := _) rfl rfl)
          clear h5 h6
          go_upto_region 7 with fail
          simp only [List.append_eq, List.cons_append, List.nil_append]
          refine wp_region_noPanic ?_
          refine wp_region_held_drew (S := fun X => Below u.heap.size u X) (by kernel_rfl) ((Below.refl _ u).drew) (fun hHeld => ?_)
          refine' take_ 0 rfl (by kernel_rfl) (by kernel_rfl) (by kernel_rfl) (fun _ _ _ h => h) (by rfl) (fun wS hSw => ?_) hHeld ?_
          rotate_left
          focus (go_simp; (try with_reducible rfl); done)
          try simp only [Act.put, List.setIfInBounds_toArray, List.set_cons_zero, List.set_cons_succ]
          refine' take_ 1 rfl (by kernel_rfl) (by kernel_rfl) (by kernel_rfl) (fun _ _ _ h => h) (by rfl) (fun wS hSw => ?_) hHeld ?_
          rotate_left
          focus (go_simp; (try with_reducible rfl); done)
          try simp only [Act.put, List.setIfInBounds_toArray, List.set_cons_zero, List.set_cons_succ]
          refine' take_ 2 rfl (by kernel_rfl) (by kernel_rfl) (by kernel_rfl) (fun _ _ _ h => h) (by rfl) (fun wS hSw => ?_) hHeld ?_
          rotate_left
          focus (have hz := G0.out _ hSw; go_simp; (try with_reducible rfl); done)
          try simp only [Act.put, List.setIfInBounds_toArray, List.set_cons_zero, List.set_cons_succ]
          refine' take_ 3 rfl (by kernel_rfl) (by kernel_rfl) (by kernel_rfl) (fun _ _ _ h => h) (by rfl) (fun wS hSw => ?_) hHeld ?_
          rotate_left
          focus (go_simp; (try with_reducible rfl); done)
          try simp only [Act.put, List.setIfInBounds_toArray, List.set_cons_zero, List.set_cons_succ]
          refine' take_ 4 rfl (by kernel_rfl) (by kernel_rfl) (by kernel_rfl) (fun _ _ _ h => h) (by rfl) (fun wS hSw => ?_) hHeld ?_
          rotate_left
          focus (go_simp; (try with_reducible rfl); done)
          try simp only [Act.put, List.setIfInBounds_toArray, List.set_cons_zero, List.set_cons_succ]
          refine' take_ 5 rfl (by kernel_rfl) (by kernel_rfl) (by kernel_rfl) (fun _ _ _ h => h) (by rfl) (fun wS hSw => ?_) hHeld ?_
          rotate_left
          focus (have hz := G1.out _ hSw; go_simp; (try with_reducible rfl); done)
          try simp only [Act.put, List.setIfInBounds_toArray, List.set_cons_zero, List.set_cons_succ]
          refine' take_ 6 rfl (by kernel_rfl) (by kernel_rfl) (by kernel_rfl) (fun _ _ _ h => h) (by rfl) (fun wS hSw => ?_) hHeld ?_
          rotate_left
          focus (go_simp; (try with_reducible rfl); done)
          try simp only [Act.put, List.setIfInBounds_toArray, List.set_cons_zero, List.set_cons_succ]
          refine' take_ 7 rfl (by kernel_rfl) (by kernel_rfl) (by kernel_rfl) (fun _ _ _ h => h) (by rfl) (fun wS hSw => ?_) hHeld ?_
          rotate_left
          focus (go_simp; (try with_reducible rfl); done)
          try simp only [Act.put, List.setIfInBounds_toArray, List.set_cons_zero, List.set_cons_succ]
          refine' take_ 8 rfl (by kernel_rfl) (by kernel_rfl) (by kernel_rfl) (fun _ _ _ h => h) (by rfl) (fun wS hSw => ?_) hHeld ?_
          rotate_left
          focus (have hz := G2.out _ hSw; go_simp; (try with_reducible rfl); done)
          try simp only [Act.put, List.setIfInBounds_toArray, List.set_cons_zero, List.set_cons_succ]
          refine' take_ 9 rfl (by kernel_rfl) (by kernel_rfl) (by kernel_rfl) (fun _ _ _ h => h) (by rfl) (fun wS hSw => ?_) hHeld ?_
          rotate_left
          focus (go_simp; (try with_reducible rfl); done)
          try simp only [Act.put, List.setIfInBounds_toArray, List.set_cons_zero, List.set_cons_succ]
          refine' take_ 10 rfl (by kernel_rfl) (by kernel_rfl) (by kernel_rfl) (fun _ _ _ h => h) (by rfl) (fun wS hSw => ?_) hHeld ?_
          rotate_left
          focus (go_simp; (try with_reducible rfl); done)
          try simp only [Act.put, List.setIfInBounds_toArray, List.set_cons_zero, List.set_cons_succ]
          refine' take_ 11 rfl (by kernel_rfl) (by kernel_rfl) (by kernel_rfl) (fun _ _ _ h => h) (by rfl) (fun wS hSw => run_load_dv wS 38 _ r 0 rfl _ Tryz.underlying38 (Gp.gc b.o b.i b.e) (by rw [show (Gp.gc b.o b.i b.e).length = 3 from rfl]; kernel_rfl) ((BRow.below RR.out hSw RR.out.lt).gp) _ _ _ _ _) hHeld ?_
          try simp only [Act.put, List.setIfInBounds_toArray, List.set_cons_zero, List.set_cons_succ]
          have he : ∀ W, (binOp .eql 38 (.agg #[.int .u8 (b.o : Int), .int .u8 (b.i : Int), .int .u8 (b.e : Int)]) (.agg (Gp.gc b.o b.i b.e).toArray)).run Tryz.prog W = .ok (.bool true) W := fun W => eql_rgp W b.o b.i b.e
          refine' take_ 12 rfl (by kernel_rfl) (by kernel_rfl) (by kernel_rfl) (fun _ _ _ h => h) (by rfl) (fun wS hSw => ?_) hHeld ?_
          rotate_left
          focus (go_simp; (try rw [guard_rgp]); (try go_simp); (try rw [he]); (try go_simp); (try with_reducible rfl); done)
          try simp only [Act.put, List.setIfInBounds_toArray, List.set_cons_zero, List.set_cons_succ]
          refine' take_ 13 rfl (by kernel_rfl) (by kernel_rfl) (by kernel_rfl) (fun _ _ _ h => h) (by rfl) (fun wS hSw => ?_) hHeld ?_
          rotate_left
          focus (go_simp; (try with_reducible rfl); done)
          try simp only [Act.put, List.setIfInBounds_toArray, List.set_cons_zero, List.set_cons_succ]
          refine' take_ 14 rfl (by kernel_rfl) (by kernel_rfl) (by kernel_rfl) (fun _ _ _ h => h) (by rfl) (fun wS hSw => ?_) hHeld ?_
          rotate_left
          focus (go_simp; (try with_reducible rfl); done)
          try simp only [Act.put, List.setIfInBounds_toArray, List.set_cons_zero, List.set_cons_succ]
          refine' take_ 15 rfl (by kernel_rfl) (by kernel_rfl) (by kernel_rfl) (fun _ _ _ h => h) (by rfl) (fun wS hSw => ?_) hHeld ?_
          rotate_left
          focus (go_simp; (try with_reducible rfl); done)
          try simp only [Act.put, List.setIfInBounds_toArray, List.set_cons_zero, List.set_cons_succ]
          refine' take_ 16 rfl (by kernel_rfl) (by kernel_rfl) (by kernel_rfl) (fun _ _ _ h => h) (by rfl) (fun wS hSw => ?_) hHeld ?_
          rotate_left
          focus (have hz := Q0.out _ hSw; go_simp; (try with_reducible rfl); done)
          try simp only [Act.put, List.setIfInBounds_toArray, List.set_cons_zero, List.set_cons_succ]
          refine' take_ 17 rfl (by kernel_rfl) (by kernel_rfl) (by kernel_rfl) (fun _ _ _ h => h) (by rfl) (fun wS hSw => ?_) hHeld ?_
          rotate_left
          focus (go_simp; (try with_reducible rfl); done)
          try simp only [Act.put, List.setIfInBounds_toArray, List.set_cons_zero, List.set_cons_succ]
          refine' take_ 18 rfl (by kernel_rfl) (by kernel_rfl) (by kernel_rfl) (fun _ _ _ h => h) (by rfl) (fun wS hSw => ?_) hHeld ?_
          rotate_left
          focus (go_simp; (try with_reducible rfl); done)
          try simp only [Act.put, List.setIfInBounds_toArray, List.set_cons_zero, List.set_cons_succ]
          refine' take_ 19 rfl (by kernel_rfl) (by kernel_rfl) (by kernel_rfl) (fun _ _ _ h => h) (by rfl) (fun wS hSw => ?_) hHeld ?_
          rotate_left
          focus (have hz := Q1.out _ hSw; go_simp; (try with_reducible rfl); done)
          try simp only [Act.put, List.setIfInBounds_toArray, List.set_cons_zero, List.set_cons_succ]
          refine' take_ 20 rfl (by kernel_rfl) (by kernel_rfl) (by kernel_rfl) (fun _ _ _ h => h) (by rfl) (fun wS hSw => ?_) hHeld ?_
          rotate_left
          focus (go_simp; (try with_reducible rfl); done)
          try simp only [Act.put, List.setIfInBounds_toArray, List.set_cons_zero, List.set_cons_succ]
          refine' take_ 21 rfl (by kernel_rfl) (by kernel_rfl) (by kernel_rfl) (fun _ _ _ h => h) (by rfl) (fun wS hSw => ?_) hHeld ?_
          rotate_left
          focus (go_simp; (try with_reducible rfl); done)
          try simp only [Act.put, List.setIfInBounds_toArray, List.set_cons_zero, List.set_cons_succ]
          refine' take_ 22 rfl (by kernel_rfl) (by kernel_rfl) (by kernel_rfl) (fun _ _ _ h => h) (by rfl) (fun wS hSw => run_load_dv wS 44 _ r 30 rfl _ Tryz.underlying44 (Iq.icc b.q) (by rw [show (Iq.icc b.q).length = 2 from rfl]; kernel_rfl) ((BRow.below RR.out hSw RR.out.lt).iq) _ _ _ _ _) hHeld ?_
          try simp only [Act.put, List.setIfInBounds_toArray, List.set_cons_zero, List.set_cons_succ]
          clear he
          have he : ∀ W, (binOp .eql 44 (.agg #[.int .u8 (b.q.m : Int), .int .u8 (b.q.p : Int)]) (.agg (Iq.icc b.q).toArray)).run Tryz.prog W = .ok (.bool true) W := fun W => eql_riq W b.q
          refine' take_ 23 rfl (by kernel_rfl) (by kernel_rfl) (by kernel_rfl) (fun _ _ _ h => h) (by rfl) (fun wS hSw => ?_) hHeld ?_
          rotate_left
          focus (go_simp; (try rw [guard_riq]); (try go_simp); (try rw [he]); (try go_simp); (try with_reducible rfl); done)
          try simp only [Act.put, List.setIfInBounds_toArray, List.set_cons_zero, List.set_cons_succ]
          refine' take_ 24 rfl (by kernel_rfl) (by kernel_rfl) (by kernel_rfl) (fun _ _ _ h => h) (by rfl) (fun wS hSw => ?_) hHeld ?_
          rotate_left
          focus (go_simp; (try with_reducible rfl); done)
          try simp only [Act.put, List.setIfInBounds_toArray, List.set_cons_zero, List.set_cons_succ]
          refine' take_ 25 rfl (by kernel_rfl) (by kernel_rfl) (by kernel_rfl) (fun _ _ _ h => h) (by rfl) (fun wS hSw => ?_) hHeld ?_
          rotate_left
          focus (go_simp; (try with_reducible rfl); done)
          try simp only [Act.put, List.setIfInBounds_toArray, List.set_cons_zero, List.set_cons_succ]
          as_aux_lemma =>
            refine' take_ 26 rfl (by kernel_rfl) (by kernel_rfl) (by kernel_rfl) (fun _ _ _ h => h) (by rfl) (fun wS hSw => ?_) hHeld ?_
            rotate_left
            focus (go_simp; (try with_reducible rfl); done)
            try simp only [Act.put, List.setIfInBounds_toArray, List.set_cons_zero, List.set_cons_succ]
            refine' take_ 27 rfl (by kernel_rfl) (by kernel_rfl) (by kernel_rfl) (fun _ _ _ h => h) (by rfl) (fun wS hSw => ?_) hHeld ?_
            rotate_left
            focus (go_simp; (try with_reducible rfl); done)
            try simp only [Act.put, List.setIfInBounds_toArray, List.set_cons_zero, List.set_cons_succ]
            refine' take_ 28 rfl (by kernel_rfl) (by kernel_rfl) (by kernel_rfl) (fun _ _ _ h => h) (by rfl) (fun wS hSw => ?_) hHeld ?_
            rotate_left
            focus (have hz := U0.out _ hSw; go_simp; (try with_reducible rfl); done)
            try simp only [Act.put, List.setIfInBounds_toArray, List.set_cons_zero, List.set_cons_succ]
            refine' take_ 29 rfl (by kernel_rfl) (by kernel_rfl) (by kernel_rfl) (fun _ _ _ h => h) (by rfl) (fun wS hSw => ?_) hHeld ?_
            rotate_left
            focus (go_simp; (try with_reducible rfl); done)
            try simp only [Act.put, List.setIfInBounds_toArray, List.set_cons_zero, List.set_cons_succ]
            refine' take_ 30 rfl (by kernel_rfl) (by kernel_rfl) (by kernel_rfl) (fun _ _ _ h => h) (by rfl) (fun wS hSw => ?_) hHeld ?_
            rotate_left
            focus (go_simp; (try with_reducible rfl); done)
            try simp only [Act.put, List.setIfInBounds_toArray, List.set_cons_zero, List.set_cons_succ]
            refine' take_ 31 rfl (by kernel_rfl) (by kernel_rfl) (by kernel_rfl) (fun _ _ _ h => h) (by rfl) (fun wS hSw => ?_) hHeld ?_
            rotate_left
            focus (have hz := V0.out _ hSw; go_simp; (try with_reducible rfl); done)
            try simp only [Act.put, List.setIfInBounds_toArray, List.set_cons_zero, List.set_cons_succ]
            refine' take_ 32 rfl (by kernel_rfl) (by kernel_rfl) (by kernel_rfl) (fun _ _ _ h => h) (by rfl) (fun wS hSw => ?_) hHeld ?_
            rotate_left
            focus (go_simp; (try with_reducible rfl); done)
            try simp only [Act.put, List.setIfInBounds_toArray, List.set_cons_zero, List.set_cons_succ]
            refine' take_ 33 rfl (by kernel_rfl) (by kernel_rfl) (by kernel_rfl) (fun _ _ _ h => h) (by rfl) (fun wS hSw => ?_) hHeld ?_
            rotate_left
            focus (go_simp; (try with_reducible rfl); done)
            try simp only [Act.put, List.setIfInBounds_toArray, List.set_cons_zero, List.set_cons_succ]
            refine' take_ 34 rfl (by kernel_rfl) (by kernel_rfl) (by kernel_rfl) (fun _ _ _ h => h) (by rfl) (fun wS hSw => ?_) hHeld ?_
            rotate_left
            focus (go_simp; (try with_reducible rfl); done)
            try simp only [Act.put, List.setIfInBounds_toArray, List.set_cons_zero, List.set_cons_succ]
            refine' take_ 35 rfl (by kernel_rfl) (by kernel_rfl) (by kernel_rfl) (fun _ _ _ h => h) (by rfl) (fun wS hSw => ?_) hHeld ?_
            rotate_left
            focus (go_simp; (try with_reducible rfl); done)
            try simp only [Act.put, List.setIfInBounds_toArray, List.set_cons_zero, List.set_cons_succ]
            refine' take_ 36 rfl (by kernel_rfl) (by kernel_rfl) (by kernel_rfl) (fun _ _ _ h => h) (by rfl) (fun wS hSw => ?_) hHeld ?_
            rotate_left
            focus (go_simp; (try with_reducible rfl); done)
            try simp only [Act.put, List.setIfInBounds_toArray, List.set_cons_zero, List.set_cons_succ]
            refine' take_ 37 rfl (by kernel_rfl) (by kernel_rfl) (by kernel_rfl) (fun _ _ _ h => h) (by rfl) (fun wS hSw => run_load_ar wS 25 _ g5 1 rfl _ _ Tryz.underlying25 (Ua.bvals [x0, x1, x2, x3, x4, x5, x6, x7]) (by kernel_rfl) (UA1.out _ hSw) _ _ _ _ _) hHeld ?_
            try simp only [Act.put, List.setIfInBounds_toArray, List.set_cons_zero, List.set_cons_succ]
            refine' take_ 38 rfl (by kernel_rfl) (by kernel_rfl) (by kernel_rfl) (fun _ _ _ h => h) (by rfl) (fun wS hSw => ?_) hHeld ?_
            rotate_left
            focus (go_simp; (try with_reducible rfl); done)
            try simp only [Act.put, List.setIfInBounds_toArray, List.set_cons_zero, List.set_cons_succ]
            refine' take_ 39 rfl (by kernel_rfl) (by kernel_rfl) (by kernel_rfl) (fun _ _ _ h => h) (by rfl) (fun wS hSw => ?_) hHeld ?_
            rotate_left
            focus (go_simp; (try with_reducible rfl); done)
            try simp only [Act.put, List.setIfInBounds_toArray, List.set_cons_zero, List.set_cons_succ]
            refine' take_ 40 rfl (by kernel_rfl) (by kernel_rfl) (by kernel_rfl) (fun _ _ _ h => h) (by rfl) (fun wS hSw => run_load_ar wS 25 _ g6 1 rfl _ _ Tryz.underlying25 (Ua.bvals [x0, x1, x2, x3, x4, x5, x6, x7]) (by kernel_rfl) (VA1.out _ hSw) _ _ _ _ _) hHeld ?_
            try simp only [Act.put, List.setIfInBounds_toArray, List.set_cons_zero, List.set_cons_succ]
            clear he
            refine' take_ 41 rfl (by kernel_rfl) (by kernel_rfl) (by kernel_rfl) (fun _ _ _ h => h) (by rfl) (fun wS hSw => ?_) hHeld ?_
            rotate_left
            focus (go_simp; (try rw [guard_by]); (try go_simp); (try rw [HEX2.out]); (try go_simp); (try with_reducible rfl); done)
            try simp only [Act.put, List.setIfInBounds_toArray, List.set_cons_zero, List.set_cons_succ]
            refine' take_ 42 rfl (by kernel_rfl) (by kernel_rfl) (by kernel_rfl) (fun _ _ _ h => h) (by rfl) (fun wS hSw => ?_) hHeld ?_
            rotate_left
            focus (go_simp; (try with_reducible rfl); done)
            try simp only [Act.put, List.setIfInBounds_toArray, List.set_cons_zero, List.set_cons_succ]
            refine' take_ 43 rfl (by kernel_rfl) (by kernel_rfl) (by kernel_rfl) (fun _ _ _ h => h) (by rfl) (fun wS hSw => ?_) hHeld ?_
            rotate_left
            focus (go_simp; (try with_reducible rfl); done)
            try simp only [Act.put, List.setIfInBounds_toArray, List.set_cons_zero, List.set_cons_succ]
            as_aux_lemma =>
              refine' take_ 44 rfl (by kernel_rfl) (by kernel_rfl) (by kernel_rfl) (fun _ _ _ h => h) (by rfl) (fun wS hSw => ?_) hHeld ?_
              rotate_left
              focus (go_simp; (try with_reducible rfl); done)
              try simp only [Act.put, List.setIfInBounds_toArray, List.set_cons_zero, List.set_cons_succ]
              refine' take_ 45 rfl (by kernel_rfl) (by kernel_rfl) (by kernel_rfl) (fun _ _ _ h => h) (by rfl) (fun wS hSw => ?_) hHeld ?_
              rotate_left
              focus (go_simp; (try with_reducible rfl); done)
              try simp only [Act.put, List.setIfInBounds_toArray, List.set_cons_zero, List.set_cons_succ]
              refine' take_ 46 rfl (by kernel_rfl) (by kernel_rfl) (by kernel_rfl) (fun _ _ _ h => h) (by rfl) (fun wS hSw => ?_) hHeld ?_
              rotate_left
              focus (have hz := U9.out _ hSw; go_simp; (try with_reducible rfl); done)
              try simp only [Act.put, List.setIfInBounds_toArray, List.set_cons_zero, List.set_cons_succ]
              refine' take_ 47 rfl (by kernel_rfl) (by kernel_rfl) (by kernel_rfl) (fun _ _ _ h => h) (by rfl) (fun wS hSw => ?_) hHeld ?_
              rotate_left
              focus (go_simp; (try with_reducible rfl); done)
              try simp only [Act.put, List.setIfInBounds_toArray, List.set_cons_zero, List.set_cons_succ]
              refine' take_ 48 rfl (by kernel_rfl) (by kernel_rfl) (by kernel_rfl) (fun _ _ _ h => h) (by rfl) (fun wS hSw => ?_) hHeld ?_
              rotate_left
              focus (go_simp; (try with_reducible rfl); done)
              try simp only [Act.put, List.setIfInBounds_toArray, List.set_cons_zero, List.set_cons_succ]
              refine' take_ 49 rfl (by kernel_rfl) (by kernel_rfl) (by kernel_rfl) (fun _ _ _ h => h) (by rfl) (fun wS hSw => ?_) hHeld ?_
              rotate_left
              focus (have hz := V9.out _ hSw; go_simp; (try with_reducible rfl); done)
              try simp only [Act.put, List.setIfInBounds_toArray, List.set_cons_zero, List.set_cons_succ]
              refine' take_ 50 rfl (by kernel_rfl) (by kernel_rfl) (by kernel_rfl) (fun _ _ _ h => h) (by rfl) (fun wS hSw => ?_) hHeld ?_
              rotate_left
              focus (go_simp; (try with_reducible rfl); done)
              try simp only [Act.put, List.setIfInBounds_toArray, List.set_cons_zero, List.set_cons_succ]
              refine' take_ 51 rfl (by kernel_rfl) (by kernel_rfl) (by kernel_rfl) (fun _ _ _ h => h) (by rfl) (fun wS hSw => ?_) hHeld ?_
              rotate_left
              focus (go_simp; (try with_reducible rfl); done)
              try simp only [Act.put, List.setIfInBounds_toArray, List.set_cons_zero, List.set_cons_succ]
              refine' take_ 52 rfl (by kernel_rfl) (by kernel_rfl) (by kernel_rfl) (fun _ _ _ h => h) (by rfl) (fun wS hSw => ?_) hHeld ?_
              rotate_left
              focus (go_simp; (try with_reducible rfl); done)
              try simp only [Act.put, List.setIfInBounds_toArray, List.set_cons_zero, List.set_cons_succ]
              refine' take_ 53 rfl (by kernel_rfl) (by kernel_rfl) (by kernel_rfl) (fun _ _ _ h => h) (by rfl) (fun wS hSw => ?_) hHeld ?_
              rotate_left
              focus (go_simp; (try with_reducible rfl); done)
              try simp only [Act.put, List.setIfInBounds_toArray, List.set_cons_zero, List.set_cons_succ]
              refine' take_ 54 rfl (by kernel_rfl) (by kernel_rfl) (by kernel_rfl) (fun _ _ _ h => h) (by rfl) (fun wS hSw => ?_) hHeld ?_
              rotate_left
              focus (go_simp; (try with_reducible rfl); done)
              try simp only [Act.put, List.setIfInBounds_toArray, List.set_cons_zero, List.set_cons_succ]
              refine' take_ 55 rfl (by kernel_rfl) (by kernel_rfl) (by kernel_rfl) (fun _ _ _ h => h) (by rfl) (fun wS hSw => run_load_ar wS 25 _ g5 10 rfl _ _ Tryz.underlying25 (Ua.bvals [y0, y1, y2, y3, y4, y5, y6, y7]) (by kernel_rfl) (UA10.out _ hSw) _ _ _ _ _) hHeld ?_
              try simp only [Act.put, List.setIfInBounds_toArray, List.set_cons_zero, List.set_cons_succ]
              refine' take_ 56 rfl (by kernel_rfl) (by kernel_rfl) (by kernel_rfl) (fun _ _ _ h => h) (by rfl) (fun wS hSw => ?_) hHeld ?_
              rotate_left
              focus (go_simp; (try with_reducible rfl); done)
              try simp only [Act.put, List.setIfInBounds_toArray, List.set_cons_zero, List.set_cons_succ]
              refine' take_ 57 rfl (by kernel_rfl) (by kernel_rfl) (by kernel_rfl) (fun _ _ _ h => h) (by rfl) (fun wS hSw => ?_) hHeld ?_
              rotate_left
              focus (go_simp; (try with_reducible rfl); done)
              try simp only [Act.put, List.setIfInBounds_toArray, List.set_cons_zero, List.set_cons_succ]
              refine' take_ 58 rfl (by kernel_rfl) (by kernel_rfl) (by kernel_rfl) (fun _ _ _ h => h) (by rfl) (fun wS hSw => run_load_ar wS 25 _ g6 10 rfl _ _ Tryz.underlying25 (Ua.bvals [y0, y1, y2, y3, y4, y5, y6, y7]) (by kernel_rfl) (VA10.out _ hSw) _ _ _ _ _) hHeld ?_
              try simp only [Act.put, List.setIfInBounds_toArray, List.set_cons_zero, List.set_cons_succ]
              refine' take_ 59 rfl (by kernel_rfl) (by kernel_rfl) (by kernel_rfl) (fun _ _ _ h => h) (by rfl) (fun wS hSw => ?_) hHeld ?_
              rotate_left
              focus (go_simp; (try rw [guard_by]); (try go_simp); (try rw [HEY2.out]); (try go_simp); (try with_reducible rfl); done)
              try simp only [Act.put, List.setIfInBounds_toArray, List.set_cons_zero, List.set_cons_succ]
              refine' take_ 60 rfl (by kernel_rfl) (by kernel_rfl) (by kernel_rfl) (fun _ _ _ h => h) (by rfl) (fun wS hSw => ?_) hHeld ?_
              rotate_left
              focus (go_simp; (try with_reducible rfl); done)
              try simp only [Act.put, List.setIfInBounds_toArray, List.set_cons_zero, List.set_cons_succ]
              refine' take_ 61 rfl (by kernel_rfl) (by kernel_rfl) (by kernel_rfl) (fun _ _ _ h => h) (by rfl) (fun wS hSw => ?_) hHeld ?_
              rotate_left
              focus (go_simp; (try with_reducible rfl); done)
              try simp only [Act.put, List.setIfInBounds_toArray, List.set_cons_zero, List.set_cons_succ]
              as_aux_lemma =>
                refine' take_ 62 rfl (by kernel_rfl) (by kernel_rfl) (by kernel_rfl) (fun _ _ _ h => h) (by rfl) (fun wS hSw => ?_) hHeld ?_
                rotate_left
                focus (go_simp; (try with_reducible rfl); done)
                try simp only [Act.put, List.setIfInBounds_toArray, List.set_cons_zero, List.set_cons_succ]
                refine' take_ 63 rfl (by kernel_rfl) (by kernel_rfl) (by kernel_rfl) (fun _ _ _ h => h) (by rfl) (fun wS hSw => ?_) hHeld ?_
                rotate_left
                focus (have hz := U18.out _ hSw; go_simp; (try with_reducible rfl); done)
                try simp only [Act.put, List.setIfInBounds_toArray, List.set_cons_zero, List.set_cons_succ]
                refine' take_ 64 rfl (by kernel_rfl) (by kernel_rfl) (by kernel_rfl) (fun _ _ _ h => h) (by rfl) (fun wS hSw => ?_) hHeld ?_
                rotate_left
                focus (go_simp; (try with_reducible rfl); done)
                try simp only [Act.put, List.setIfInBounds_toArray, List.set_cons_zero, List.set_cons_succ]
                refine' take_ 65 rfl (by kernel_rfl) (by kernel_rfl) (by kernel_rfl) (fun _ _ _ h => h) (by rfl) (fun wS hSw => ?_) hHeld ?_
                rotate_left
                focus (have hz := V18.out _ hSw; go_simp; (try with_reducible rfl); done)
                try simp only [Act.put, List.setIfInBounds_toArray, List.set_cons_zero, List.set_cons_succ]
                refine' take_ 66 rfl (by kernel_rfl) (by kernel_rfl) (by kernel_rfl) (fun _ _ _ h => h) (by rfl) (fun wS hSw => ?_) hHeld ?_
                rotate_left
                focus (go_simp; (try with_reducible rfl); done)
                try simp only [Act.put, List.setIfInBounds_toArray, List.set_cons_zero, List.set_cons_succ]
                refine' take_ 67 rfl (by kernel_rfl) (by kernel_rfl) (by kernel_rfl) (fun _ _ _ h => h) (by rfl) (fun wS hSw => ?_) hHeld ?_
                rotate_left
                focus (go_simp; (try with_reducible rfl); done)
                try simp only [Act.put, List.setIfInBounds_toArray, List.set_cons_zero, List.set_cons_succ]
                refine' take_ 68 rfl (by kernel_rfl) (by kernel_rfl) (by kernel_rfl) (fun _ _ _ h => h) (by rfl) (fun wS hSw => ?_) hHeld ?_
                rotate_left
                focus (go_simp; (try with_reducible rfl); done)
                try simp only [Act.put, List.setIfInBounds_toArray, List.set_cons_zero, List.set_cons_succ]
                refine' take_ 69 rfl (by kernel_rfl) (by kernel_rfl) (by kernel_rfl) (fun _ _ _ h => h) (by rfl) (fun wS hSw => ?_) hHeld ?_
                rotate_left
                focus (go_simp; (try with_reducible rfl); done)
                try simp only [Act.put, List.setIfInBounds_toArray, List.set_cons_zero, List.set_cons_succ]
                refine' take_ 70 rfl (by kernel_rfl) (by kernel_rfl) (by kernel_rfl) (fun _ _ _ h => h) (by rfl) (fun wS hSw => ?_) hHeld ?_
                rotate_left
                focus (have hz := U19.out _ hSw; go_simp; (try with_reducible rfl); done)
                try simp only [Act.put, List.setIfInBounds_toArray, List.set_cons_zero, List.set_cons_succ]
                refine' take_ 71 rfl (by kernel_rfl) (by kernel_rfl) (by kernel_rfl) (fun _ _ _ h => h) (by rfl) (fun wS hSw => ?_) hHeld ?_
                rotate_left
                focus (go_simp; (try with_reducible rfl); done)
                try simp only [Act.put, List.setIfInBounds_toArray, List.set_cons_zero, List.set_cons_succ]
                refine' take_ 72 rfl (by kernel_rfl) (by kernel_rfl) (by kernel_rfl) (fun _ _ _ h => h) (by rfl) (fun wS hSw => ?_) hHeld ?_
                rotate_left
                focus (have hz := V19.out _ hSw; go_simp; (try with_reducible rfl); done)
                try simp only [Act.put, List.setIfInBounds_toArray, List.set_cons_zero, List.set_cons_succ]
                refine' take_ 73 rfl (by kernel_rfl) (by kernel_rfl) (by kernel_rfl) (fun _ _ _ h => h) (by rfl) (fun wS hSw => ?_) hHeld ?_
                rotate_left
                focus (go_simp; (try with_reducible rfl); done)
                try simp only [Act.put, List.setIfInBounds_toArray, List.set_cons_zero, List.set_cons_succ]
                refine' take_ 74 rfl (by kernel_rfl) (by kernel_rfl) (by kernel_rfl) (fun _ _ _ h => h) (by rfl) (fun wS hSw => ?_) hHeld ?_
                rotate_left
                focus (go_simp; (try with_reducible rfl); done)
                try simp only [Act.put, List.setIfInBounds_toArray, List.set_cons_zero, List.set_cons_succ]
                refine' take_ 75 rfl (by kernel_rfl) (by kernel_rfl) (by kernel_rfl) (fun _ _ _ h => h) (by rfl) (fun wS hSw => ?_) hHeld ?_
                rotate_left
                focus (go_simp; (try with_reducible rfl); done)
                try simp only [Act.put, List.setIfInBounds_toArray, List.set_cons_zero, List.set_cons_succ]
                refine' take_ 76 rfl (by kernel_rfl) (by kernel_rfl) (by kernel_rfl) (fun _ _ _ h => h) (by rfl) (fun wS hSw => ?_) hHeld ?_
                rotate_left
                focus (go_simp; (try with_reducible rfl); done)
                try simp only [Act.put, List.setIfInBounds_toArray, List.set_cons_zero, List.set_cons_succ]
                refine' take_ 77 rfl (by kernel_rfl) (by kernel_rfl) (by kernel_rfl) (fun _ _ _ h => h) (by rfl) (fun wS hSw => ?_) hHeld ?_
                rotate_left
                focus (have hz := U20.out _ hSw; go_simp; (try with_reducible rfl); done)
                try simp only [Act.put, List.setIfInBounds_toArray, List.set_cons_zero, List.set_cons_succ]
                refine' take_ 78 rfl (by kernel_rfl) (by kernel_rfl) (by kernel_rfl) (fun _ _ _ h => h) (by rfl) (fun wS hSw => ?_) hHeld ?_
                rotate_left
                focus (go_simp; (try with_reducible rfl); done)
                try simp only [Act.put, List.setIfInBounds_toArray, List.set_cons_zero, List.set_cons_succ]
                refine' take_ 79 rfl (by kernel_rfl) (by kernel_rfl) (by kernel_rfl) (fun _ _ _ h => h) (by rfl) (fun wS hSw => ?_) hHeld ?_
                rotate_left
                focus (have hz := V20.out _ hSw; go_simp; (try with_reducible rfl); done)
                try simp only [Act.put, List.setIfInBounds_toArray, List.set_cons_zero, List.set_cons_succ]
                refine' take_ 80 rfl (by kernel_rfl) (by kernel_rfl) (by kernel_rfl) (fun _ _ _ h => h) (by rfl) (fun wS hSw => ?_) hHeld ?_
                rotate_left
                focus (go_simp; (try with_reducible rfl); done)
                try simp only [Act.put, List.setIfInBounds_toArray, List.set_cons_zero, List.set_cons_succ]
                refine' take_ 81 rfl (by kernel_rfl) (by kernel_rfl) (by kernel_rfl) (fun _ _ _ h => h) (by rfl) (fun wS hSw => ?_) hHeld ?_
                rotate_left
                focus (go_simp; (try with_reducible rfl); done)
                try simp only [Act.put, List.setIfInBounds_toArray, List.set_cons_zero, List.set_cons_succ]
                refine' take_ 82 rfl (by kernel_rfl) (by kernel_rfl) (by kernel_rfl) (fun _ _ _ h => h) (by rfl) (fun wS hSw => ?_) hHeld ?_
                rotate_left
                focus (go_simp; (try with_reducible rfl); done)
                try simp only [Act.put, List.setIfInBounds_toArray, List.set_cons_zero, List.set_cons_succ]
                as_aux_lemma =>
                  refine' take_ 83 rfl (by kernel_rfl) (by kernel_rfl) (by kernel_rfl) (fun _ _ _ h => h) (by rfl) (fun wS hSw => run_load_b wS 37 _ g rfl _ Tryz.underlying37 (by kernel_rfl) 37 (BRow.below RA.out hSw RA.out.lt) _ _ _ _ _) hHeld ?_
                  try simp only [Act.put, List.setIfInBounds_toArray, List.set_cons_zero, List.set_cons_succ]
                  refine' take_ 85 rfl (by kernel_rfl) (by kernel_rfl) (by kernel_rfl) (fun _ _ _ h => h) (by rfl) (fun wS hSw => run_load_b wS 46 _ r rfl _ Tryz.underlying46 (by kernel_rfl) 46 (BRow.below RR.out hSw RR.out.lt) _ _ _ _ _) hHeld ?_
                  try simp only [Act.put, List.setIfInBounds_toArray, List.set_cons_zero, List.set_cons_succ]
                  refine only_ 84 rfl (by kernel_rfl) (by rfl) (fun K hK => ?_)
                  obtain ⟨Y, hY⟩ : ∃ Y, u.drew = Y := ⟨_, rfl⟩
                  rw [hY] at hHeld ⊢
                  clear hY
                  refine wp_call_ret 18 _ _ rfl _ (by rfl) (by kernel_rfl) _ (K1.out _) (fun Y84 hB => ?_)
                  have hH2 := hHeld.trans (hB.mono hHeld.size)
                  refine hK.out _ _ hH2 (fun _ => ?_)
                  clear hK K hB hHeld
                  have hHeld := hH2
                  clear hH2
                  show wpAnyH _ _ _ _ _ _ _ (Act.put _ (some 121) _) _
                  try simp only [Act.put, List.setIfInBounds_toArray, List.set_cons_zero, List.set_cons_succ]
                  refine only_ 86 rfl (by kernel_rfl) (by rfl) (fun K hK => ?_)
                  refine wp_call_ret 19 _ _ rfl _ (by rfl) (by kernel_rfl) _ (K2.out _) (fun Y86 hB => ?_)
                  have hH2 := hHeld.trans (hB.mono hHeld.size)
                  refine hK.out _ _ hH2 (fun _ => ?_)
                  clear hK K hB hHeld
                  have hHeld := hH2
                  clear hH2
                  show wpAnyH _ _ _ _ _ _ _ (Act.put _ (some 123) _) _
                  try simp only [Act.put, List.setIfInBounds_toArray, List.set_cons_zero, List.set_cons_succ]
                  refine' take_ 87 rfl (by kernel_rfl) (by kernel_rfl) (by kernel_rfl) (fun _ _ _ h => h) (by rfl) (fun wS hSw => ?_) hHeld ?_
                  rotate_left
                  focus (go_simp; (try rw [guard_all]); (try go_simp); (try rw [HEA2.out]); (try go_simp); (try with_reducible rfl); done)
                  try simp only [Act.put, List.setIfInBounds_toArray, List.set_cons_zero, List.set_cons_succ]
                  refine' take_ 88 rfl (by kernel_rfl) (by kernel_rfl) (by kernel_rfl) (fun _ _ _ h => h) (by rfl) (fun wS hSw => ?_) hHeld ?_
                  rotate_left
                  focus (go_simp; (try with_reducible rfl); done)
                  try simp only [Act.put, List.setIfInBounds_toArray, List.set_cons_zero, List.set_cons_succ]
                  refine' take_ 89 rfl (by kernel_rfl) (by kernel_rfl) (by kernel_rfl) (fun _ _ _ h => h) (by rfl) (fun wS hSw => ?_) hHeld ?_
                  rotate_left
                  focus (go_simp; (try with_reducible rfl); done)
                  try simp only [Act.put, List.setIfInBounds_toArray, List.set_cons_zero, List.set_cons_succ]
                  refine wpAnyH_done (by kernel_rfl) ?_ _
                  refine NoPanic.normal ?_
                  go_wp2_with fail
                  go_ret
                  exact ⟨rfl, BB.out.trans (hHeld.mono BB.out.size)⟩
end Go.Proofs.YtkodoldkfeopdaaGreat
