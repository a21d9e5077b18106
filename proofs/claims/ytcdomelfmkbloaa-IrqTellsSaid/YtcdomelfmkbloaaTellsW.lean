/-
  IrqTells' walk, if the program's functions are what they must be: true. Made by wip/genirqtells.py.
-/
import Derived.Test.YtcdomelfmkbloaaAlike
namespace Go.Proofs.Ytcdomelfmkbloaa
open Go.RowKit
set_option linter.unusedVariables false
theorem asc_one (lv cr : Int) (mk : Nat) : ∀ u ∈ asc lv cr mk, u.oneCell' = true := by
  intro u hu
  simp only [asc, List.mem_cons, List.not_mem_nil, or_false] at hu
  rcases hu with rfl | rfl | rfl <;> rfl
theorem wpList_load_ask {P : Program} {w : World} {lv cr : Int} {mk : Nat} {ops : Array Oper} {rest : List Oper} {o : Oper} {a : Act} {Q : Exit → Act → World → Prop} (hw : Region.wanted o (yielded ops a.tmps) = true) (ty : TypeId) (x : Operand) (ho : o.op = .load ty x) (g : Nat) (hx : a.eval x = .pointer (some ⟨g, 0, none⟩))
    (fs : Array Field) (hu : P.underlying ty = some (.struct fs)) (hi : (P.info? ty).map (·.size) = some 3) (tt : TypeId) (hr : VRow w g tt (asc lv cr mk)) (h : wpList P ops Q rest (a.put o.dst (av lv cr mk)) w) : wpList P ops Q (o :: rest) a w :=
  wpList_load_v hw ty x ho g hx fs hu tt (asc lv cr mk) hr hi h
/-- The lowest byte of a number, by nine. -/
def s9 (x : Int) : Int := (x % 256) % 9
theorem set_ok {ps : List Int} (h : PsOk ps) (j : Nat) {y : Int} (h0 : -9223372036854775808 ≤ y) (h1 : y ≤ 9223372036854775807) : PsOk (ps.set j y) := by
  refine ⟨by rw [List.length_set]; exact h.len, fun x hx => ?_, fun x hx => ?_⟩
  · rcases List.mem_or_eq_of_mem_set hx with h2 | rfl
    · exact h.lo x h2
    · exact h0
  · rcases List.mem_or_eq_of_mem_set hx with h2 | rfl
    · exact h.hi x h2
    · exact h1
def smK (ps : List Int) : Nat → List Int
  | 0 => ps
  | k + 1 => (smK ps k).set k (s9 (prio ps k))
theorem smK_ok {ps : List Int} (h : PsOk ps) : ∀ k, PsOk (smK ps k)
  | 0 => h
  | k + 1 => set_ok (smK_ok h k) k (by unfold s9; omega) (by unfold s9; omega)
set_option maxHeartbeats 4000000 in
set_option maxRecDepth 100000 in
theorem tells_walk (H : IrqOk) (c : Ic) (ps : List Int) (lv cr : Int) (mk : Nat) (w : World) (h : c.ok) (hp : PsOk ps) (h0 : -9223372036854775808 ≤ lv) (h1 : lv ≤ 9223372036854775807) (h2 : -9223372036854775808 ≤ cr) (h3 : cr ≤ 9223372036854775807) (hm : mk < 256) :
    Calls Try.prog 3 #[cv c, pv ps, av lv cr mk] w fun x w' => x = .returned (.bool true) ∧ Below w.heap.size w w' := by
  have KW := Lib.hid (works_any H)
  have OK_RP := Lib.hid hp
  obtain ⟨zl, hzl, hzl2⟩ : ∃ z : Nat, lv % 256 = (z : Int) ∧ z < 256 := ⟨(lv % 256).toNat, by omega, by omega⟩
  obtain ⟨yl, hyl, hyl2, hyl3⟩ : ∃ y : Nat, (zl : Int) % 9 = (y : Int) ∧ (zl : Int).tmod 9 = (y : Int) ∧ y < 9 := ⟨zl % 9, by omega, by rw [Int.tmod_eq_emod_of_nonneg (by omega)]; omega, by omega⟩
  obtain ⟨zc, hzc, hzc2⟩ : ∃ z : Nat, cr % 256 = (z : Int) ∧ z < 256 := ⟨(cr % 256).toNat, by omega, by omega⟩
  obtain ⟨yc, hyc, hyc2, hyc3⟩ : ∃ y : Nat, (zc : Int) % 2 = (y : Int) ∧ (zc : Int).tmod 2 = (y : Int) ∧ y < 2 := ⟨zc % 2, by omega, by rw [Int.tmod_eq_emod_of_nonneg (by omega)]; omega, by omega⟩
  obtain ⟨nn, hn1, hn2, hn3⟩ : ∃ n : Int, wrap32 lv = n ∧ -2147483648 ≤ n ∧ n ≤ 2147483647 := ⟨wrap32 lv, rfl, by unfold wrap32; omega, by unfold wrap32; omega⟩
  have KA := Lib.hid (fun (reg : Int) (W : World) (h4 : -9223372036854775808 ≤ reg) (h5 : reg ≤ 9223372036854775807) => alike_any H c ps lv cr mk reg nn W h hp h0 h1 h2 h3 hm h4 h5 hn2 hn3)
  have KB := Lib.hid (fun (reg : Int) (W : World) (h4 : -9223372036854775808 ≤ reg) (h5 : reg ≤ 9223372036854775807) => alike_any H c (smK ps 8) (yl : Int) (yc : Int) mk reg nn W h (smK_ok hp 8) (by omega) (by omega) (by omega) (by omega) hm h4 h5 hn2 hn3)
  have HN := Lib.hid hn1
  clear hn1 hn2 hn3
  unfold cv pv av
  go_enter Try.func3, Try.ntmps3
  go_upto_region 1 with (fail)
  refine name_three (Q := fun X => Code.wp _ _ _ _ X) ?_
  intro w0 hq1 hq2 hq3 hB0
  have RC_w0 : Hid (CRow w0 w.heap.size 23 c) := Lib.hid hq1
  have RP_w0 : Hid (PRow w0 (w.heap.size + 1) ps) := Lib.hid hq2
  have RA_w0 : Hid (VRow w0 (w.heap.size + 1 + 1) 26 (asc lv cr mk)) := Lib.hid hq3
  have BB_w0 := Lib.hid hB0
  clear hq1 hq2 hq3 hB0
  obtain ⟨gc, hgc⟩ : ∃ g, w.heap.size = g := ⟨_, rfl⟩
  obtain ⟨gp, hgp⟩ : ∃ g, w.heap.size + 1 = g := ⟨_, rfl⟩
  obtain ⟨ga, hga⟩ : ∃ g, w.heap.size + 1 + 1 = g := ⟨_, rfl⟩
  rw [hga] at RA_w0 ⊢
  rw [hgp] at RP_w0 ⊢
  rw [hgc] at RC_w0 ⊢
  clear hgc hgp hga
  have OK_RS := Lib.hid (smK_ok hp 0)
  have LEV := BB_w0.out.size
  have NEC := Nat.ne_of_lt RC_w0.out.lt
  have NEP := Nat.ne_of_lt RP_w0.out.lt
  have NEA := Nat.ne_of_lt RA_w0.out.lt
  go_wp2_with (first
      | ((with_reducible show wpList _ _ _ (⟨none, .store 24 (.tmp 7) (.tmp 12), _, _, _, _⟩ :: _) _ _); refine wpList_store_p  rfl 24 _ _ rfl (w0.heap.size) (by exact rfl) (by exact rfl) (by kernel_rfl) zeros_ok OK_RS.out (show PRow _ _ zeros8 from alloc_at _ _) ?_; intro w1 HN HO HB
         have RC_w1 : Hid (CRow w1 (gc) 23 (c)) := Lib.hid (CRow.other (CRow.below RC_w0.out ((Below.refl _ _).alloc (Nat.le_refl _) _) RC_w0.out.lt) HO.out (Nat.ne_of_lt RC_w0.out.lt))
         have RP_w1 : Hid (PRow w1 (gp) (ps)) := Lib.hid (PRow.other (PRow.below RP_w0.out ((Below.refl _ _).alloc (Nat.le_refl _) _) RP_w0.out.lt) HO.out (Nat.ne_of_lt RP_w0.out.lt))
         have RA_w1 : Hid (VRow w1 (ga) 26 (asc lv cr mk)) := Lib.hid (VRow.other (VRow.below RA_w0.out ((Below.refl _ _).alloc (Nat.le_refl _) _) RA_w0.out.lt) HO.out (Nat.ne_of_lt RA_w0.out.lt))
         have RS_w1 : Hid (PRow w1 (w0.heap.size) (smK ps 0)) := HN
         have BB_w1 : Hid (Below w.heap.size w w1) := Lib.hid ((BB_w0.out.alloc BB_w0.out.size _).trans (HB.out.mono BB_w0.out.size))
         clear HO HB HN RC_w0 RP_w0 RA_w0 BB_w0)
      | ((with_reducible show wpList _ _ _ (⟨some 12, .load 24 (.tmp 4), _, _, _, _⟩ :: _) _ _); refine wpList_load_p (by rfl) 24 _ rfl (gp) (by exact rfl) _ _ Try.underlying24 (by kernel_rfl) OK_RP.out RP_w0.out ?_))
  generalize hgs : w0.heap.size = gs at *
  have LE_RS := Lib.hid LEV
  have NE_RC_RS := Lib.hid NEC
  have NE_RP_RS := Lib.hid NEP
  have NE_RA_RS := Lib.hid NEA
  clear hgs LEV NEC NEP NEA
  go_loopw [8] (fun iv wr => ∃ k : Nat, k ≤ 8 ∧ iv = .int .i64 (k : Int) ∧ CRow wr gc 23 c ∧ PRow wr gp ps ∧ VRow wr ga 26 (asc lv cr mk) ∧ PRow wr gs (smK ps k) ∧ Below w.heap.size w wr) (fun iv _ => 8 - (intOf iv).toNat)
  case atStart => exact ⟨0, by omega, rfl, RC_w1.out, RP_w1.out, RA_w1.out, RS_w1.out, BB_w1.out⟩
  case round =>
    clear RC_w1 RP_w1 RA_w1 RS_w1 BB_w1
    obtain ⟨k, hk, rfl, q1, q2, q3, q4, q5⟩ := hrel
    have RC_wr := Lib.hid q1
    have RP_wr := Lib.hid q2
    have RA_wr := Lib.hid q3
    have RS_wr := Lib.hid q4
    have BB_wr := Lib.hid q5
    by_cases hlt : k < 8
    · have d1 : (k : Int) < 8 := by omega
      have hI1 := fun W => run_index_eight gp k W hlt
      have hI2 := fun W => run_index_eight gs k W hlt
      have cp := q2.at OK_RP.out k hlt
      have OKK := Lib.hid (smK_ok OK_RP.out k)
      obtain ⟨x, hx⟩ : ∃ x, prio ps k = x := ⟨_, rfl⟩
      rw [hx] at cp
      obtain ⟨z, hz, hz2⟩ : ∃ z : Nat, x % 256 = (z : Int) ∧ z < 256 := ⟨(x % 256).toNat, by omega, by omega⟩
      obtain ⟨y, hy, hy2, hy3⟩ : ∃ y : Nat, (z : Int) % 9 = (y : Int) ∧ (z : Int).tmod 9 = (y : Int) ∧ y < 9 := ⟨z % 9, by omega, by rw [Int.tmod_eq_emod_of_nonneg (by omega)]; omega, by omega⟩
      have HS : Hid (smK ps (k + 1) = (smK ps k).set k (y : Int)) := Lib.hid (by rw [smK, hx, s9, hz, hy])
      have HK := Lib.hid hlt
      clear q1 q2 q3 q4 q5 hx hlt
      go_wp2_with ((with_reducible show wpList _ _ _ (⟨none, .store 3 (.tmp 24) (.tmp 23), _, _, _, _⟩ :: _) _ _); refine wpList_store_pj rfl 3 _ _ rfl gs k (by exact rfl) (y : Int) (by exact rfl) (by kernel_rfl) OKK.out RS_wr.out HK.out ?_; intro wz HN1 HO HB)
      go_roundw
      case rel => exact ⟨k + 1, by omega, by go_num, RC_wr.out.other HO.out NE_RC_RS.out, RP_wr.out.other HO.out NE_RP_RS.out, VRow.other RA_wr.out HO.out NE_RA_RS.out, by rw [HS.out]; exact HN1.out, BB_wr.out.trans (HB.out.mono LE_RS.out)⟩
      case measure =>
        simp [intOf]
        omega
    · obtain rfl : k = 8 := by omega
      clear q1 q2 q4 q5 hlt
      have a0 := VRow.cell q3 0 _ rfl
      have a1 := VRow.cell q3 1 _ rfl
      have a2 := VRow.cell q3 2 _ rfl
      clear q3
      have OK_RS := Lib.hid (smK_ok OK_RP.out 8)
      generalize smK ps 8 = sm at *
      go_wp2_with (first
      | ((with_reducible show wpList _ _ _ (⟨none, .store 26 (.tmp 9) (.tmp 37), _, _, _, _⟩ :: _) _ _); refine wpList_store_v rfl 26 _ _ rfl (wr.heap.size) (by exact rfl) (asc (yl : Int) (yc : Int) mk) (by exact rfl) (by kernel_rfl) (asc_one _ _ _) 26 (asc 0 0 0) (alloc_at _ _) rfl ?_; intro w2 HN HO HB
         have RC_w2 : Hid (CRow w2 (gc) 23 (c)) := Lib.hid (CRow.other (CRow.below RC_wr.out ((Below.refl _ _).alloc (Nat.le_refl _) _) RC_wr.out.lt) HO.out (Nat.ne_of_lt RC_wr.out.lt))
         have RP_w2 : Hid (PRow w2 (gp) (ps)) := Lib.hid (PRow.other (PRow.below RP_wr.out ((Below.refl _ _).alloc (Nat.le_refl _) _) RP_wr.out.lt) HO.out (Nat.ne_of_lt RP_wr.out.lt))
         have RA_w2 : Hid (VRow w2 (ga) 26 (asc lv cr mk)) := Lib.hid (VRow.other (VRow.below RA_wr.out ((Below.refl _ _).alloc (Nat.le_refl _) _) RA_wr.out.lt) HO.out (Nat.ne_of_lt RA_wr.out.lt))
         have RS_w2 : Hid (PRow w2 (gs) (sm)) := Lib.hid (PRow.other (PRow.below RS_wr.out ((Below.refl _ _).alloc (Nat.le_refl _) _) RS_wr.out.lt) HO.out (Nat.ne_of_lt RS_wr.out.lt))
         have RB_w2 : Hid (VRow w2 (wr.heap.size) 26 (asc (yl : Int) (yc : Int) mk)) := HN
         have BB_w2 : Hid (Below w.heap.size w w2) := Lib.hid ((BB_wr.out.alloc BB_wr.out.size _).trans (HB.out.mono BB_wr.out.size))
         clear a0 a1 a2
         clear HO HB HN RC_wr RP_wr RA_wr RS_wr BB_wr))
      generalize wr.heap.size = gb at *
      go_loopw [10] (fun iv wx => ∃ j : Nat, j ≤ 17 ∧ iv = .int .i64 ((j : Int) - 1) ∧ CRow wx gc 23 c ∧ PRow wx gp ps ∧ VRow wx ga 26 (asc lv cr mk) ∧ PRow wx gs sm ∧ VRow wx gb 26 (asc (yl : Int) (yc : Int) mk) ∧ Below w.heap.size w wx) (fun iv _ => 17 - (intOf iv + 1).toNat)
      case atStart => exact ⟨0, by omega, rfl, RC_w2.out, RP_w2.out, RA_w2.out, RS_w2.out, RB_w2.out, BB_w2.out⟩
      case round =>
        clear RC_w2 RP_w2 RA_w2 RS_w2 RB_w2 BB_w2
        obtain ⟨j, hj, rfl, q1, q2, q3, q4, q6, q5⟩ := hrel
        have RC_v := Lib.hid q1
        have RP_v := Lib.hid q2
        have RA_v := Lib.hid q3
        have RS_v := Lib.hid q4
        have RB_v := Lib.hid q6
        have BB_v := Lib.hid q5
        clear q1 q2 q4 q5 q6
        by_cases hlt : j < 17
        · have d1 : (j : Int) - 1 ≤ 15 := by omega
          have a0 := VRow.cell q3 0 _ rfl
          have HJ := Lib.hid hlt
          have K1 := Lib.hid (fun W => KA.out ((j : Int) - 1) W (by omega) (by omega))
          have K2 := Lib.hid (fun W => KB.out ((j : Int) - 1) W (by omega) (by omega))
          clear q3 hlt
          go_wp2_with (first
      | (go_at_call 6; have hc := BB_v1; clear hc; (try rw [HN.out]); (with_reducible refine (K2.out _).mono ?_); rintro e v2 ⟨rfl, hB⟩
         have RC_v2 : Hid (CRow v2 (gc) 23 (c)) := Lib.hid (CRow.below RC_v1.out hB RC_v1.out.lt)
         have RP_v2 : Hid (PRow v2 (gp) (ps)) := Lib.hid (PRow.below RP_v1.out hB RP_v1.out.lt)
         have RA_v2 : Hid (VRow v2 (ga) 26 (asc lv cr mk)) := Lib.hid (VRow.below RA_v1.out hB RA_v1.out.lt)
         have RS_v2 : Hid (PRow v2 (gs) (sm)) := Lib.hid (PRow.below RS_v1.out hB RS_v1.out.lt)
         have RB_v2 : Hid (VRow v2 (gb) 26 (asc (yl : Int) (yc : Int) mk)) := Lib.hid (VRow.below RB_v1.out hB RB_v1.out.lt)
         have BB_v2 : Hid (Below w.heap.size w v2) := Lib.hid (BB_v1.out.trans (hB.mono BB_v1.out.size))
         clear hB RC_v1 RP_v1 RA_v1 RS_v1 RB_v1 BB_v1)
      | ((with_reducible show wpList _ _ _ (⟨some 55, .load 26 (.tmp 9), _, _, _, _⟩ :: _) _ _); refine wpList_load_ask (by kernel_rfl) 26 _ rfl (gb) (by exact rfl) _ Try.underlying26 (by kernel_rfl) 26 RB_v1.out ?_)
      | ((with_reducible show wpList _ _ _ (⟨some 54, .load 24 (.tmp 7), _, _, _, _⟩ :: _) _ _); refine wpList_load_p (by kernel_rfl) 24 _ rfl (gs) (by exact rfl) _ _ Try.underlying24 (by kernel_rfl) OK_RS.out RS_v1.out ?_)
      | ((with_reducible show wpList _ _ _ (⟨some 53, .load 23 (.tmp 3), _, _, _, _⟩ :: _) _ _); refine wpList_load_c (by kernel_rfl) 23 _ rfl (gc) (by exact rfl) _ Try.underlying23 (by kernel_rfl) 23 RC_v1.out ?_)
      | (go_at_call 6; have hc := BB_v; clear hc; (try rw [HN.out]); (with_reducible refine (K1.out _).mono ?_); rintro e v1 ⟨rfl, hB⟩
         have RC_v1 : Hid (CRow v1 (gc) 23 (c)) := Lib.hid (CRow.below RC_v.out hB RC_v.out.lt)
         have RP_v1 : Hid (PRow v1 (gp) (ps)) := Lib.hid (PRow.below RP_v.out hB RP_v.out.lt)
         have RA_v1 : Hid (VRow v1 (ga) 26 (asc lv cr mk)) := Lib.hid (VRow.below RA_v.out hB RA_v.out.lt)
         have RS_v1 : Hid (PRow v1 (gs) (sm)) := Lib.hid (PRow.below RS_v.out hB RS_v.out.lt)
         have RB_v1 : Hid (VRow v1 (gb) 26 (asc (yl : Int) (yc : Int) mk)) := Lib.hid (VRow.below RB_v.out hB RB_v.out.lt)
         have BB_v1 : Hid (Below w.heap.size w v1) := Lib.hid (BB_v.out.trans (hB.mono BB_v.out.size))
         clear a0
         clear hB RC_v RP_v RA_v RS_v RB_v BB_v)
      | ((with_reducible show wpList _ _ _ (⟨some 47, .load 26 (.tmp 5), _, _, _, _⟩ :: _) _ _); refine wpList_load_ask (by rfl) 26 _ rfl (ga) (by exact rfl) _ Try.underlying26 (by kernel_rfl) 26 RA_v.out ?_)
      | ((with_reducible show wpList _ _ _ (⟨some 46, .load 24 (.tmp 4), _, _, _, _⟩ :: _) _ _); refine wpList_load_p (by rfl) 24 _ rfl (gp) (by exact rfl) _ _ Try.underlying24 (by kernel_rfl) OK_RP.out RP_v.out ?_)
      | ((with_reducible show wpList _ _ _ (⟨some 45, .load 23 (.tmp 3), _, _, _, _⟩ :: _) _ _); refine wpList_load_c (by rfl) 23 _ rfl (gc) (by exact rfl) _ Try.underlying23 (by kernel_rfl) 23 RC_v.out ?_))
          go_roundw
          case rel => exact ⟨j + 1, by have := HJ.out; omega, by go_num, RC_v2.out, RP_v2.out, RA_v2.out, RS_v2.out, RB_v2.out, BB_v2.out⟩
          case measure =>
            simp [intOf]
            omega
        · obtain rfl : j = 17 := by omega
          clear q3
          go_wp2_with (go_at_call 7; refine (KW.out _).mono ?_; rintro e w9 ⟨rfl, hB⟩; have B9 := Lib.hid (BB_v.out.trans (hB.mono BB_v.out.size)); clear hB)
          go_ret
          exact ⟨rfl, B9.out⟩
end Go.Proofs.Ytcdomelfmkbloaa
