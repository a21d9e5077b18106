/-
  The program's iterator over the vectors that may be taken: what it yields, one behind the other.
-/
import Derived.Test.YtcdomelfmkbloaaOkWaits
import Derived.Test.YtcdomelfmkbloaaRange
import Derived.RangeFuncNested
import Derived.RangeFuncBound
import Derived.RangeFuncBox
import Derived.RangeFuncCalls
import Derived.RangeFuncLeaves
import Derived.Shelf.Abstract
import Derived.Shelf.RegionOpen
import Derived.OwnWalkIn
import Derived.TacticsInMore
import Derived.LoopNIn
import Derived.LoopIn
import Derived.Sort.QuietIn
import Derived.Sort.CutIn
namespace Go.Proofs.Ytcdomelfmkbloaa
open Go.RowKit Go.Shelf
set_option linter.unusedVariables false
attribute [local go_sem] Oper.semAt_some
section
variable {F : Fence} {n : Nat} {P : Program} {w : World} {ps : List Int}
/-- An array of numbers is loaded whole, inside a fence. -/
theorem wpListIn_load_p {ops : Array Oper} {rest : List Oper} {o : Oper} {a : Act} {Q : Exit → Act → World → Prop} (hw : Region.wanted o (yielded ops a.tmps) = true) (ty : TypeId) (x : Operand) (ho : o.op = .load ty x) (g : Nat) (hx : a.eval x = .pointer (some ⟨g, 0, none⟩))
    (m : Nat) (e : TypeId) (hu : P.underlying ty = some (.array m e)) (hi : (P.info? ty).map (·.size) = some 8) (hp : PsOk ps) (hr : PRow w g ps) (h : wpListIn F n P ops Q rest (a.put o.dst (pv ps)) w) : wpListIn F n P ops Q (o :: rest) a w :=
  BigFrame.wpListIn_want hw fun K hK => by
    refine ⟨fun f hf => by simp [Oper.about, ho] at hf, ?_⟩
    rw [Oper.semAt_eq _ _ _ (by simp [ho])]
    unfold execOp
    simp only [ho, hx, Instr.loadAt, Instr.sureAddr, Sem.run_bind, Sem.run_pure, Result.andThen_ok, run_loadVar_at w g 0 ty (psc ps) _ (row_cells hr) hu rfl (by rw [hi, psc_length, hp.len])]
    exact hK _ _ h
end
theorem index_ps (ps : List Int) (hp : PsOk ps) (k : Nat) (hk : k < 8) (W : World) : (Instr.index 24 (pv ps) (.int .i64 (k : Int))).run Try.prog W = .ok (.int .i64 (prio ps k)) W := by
  obtain ⟨p0, p1, p2, p3, p4, p5, p6, p7, rfl⟩ : ∃ p0 p1 p2 p3 p4 p5 p6 p7, ps = [p0, p1, p2, p3, p4, p5, p6, p7] := by
    have h := hp.len
    match ps, h with
    | [p0, p1, p2, p3, p4, p5, p6, p7], _ => exact ⟨p0, p1, p2, p3, p4, p5, p6, p7, rfl⟩
  clear hp
  obtain rfl | rfl | rfl | rfl | rfl | rfl | rfl | rfl : k = 0 ∨ k = 1 ∨ k = 2 ∨ k = 3 ∨ k = 4 ∨ k = 5 ∨ k = 6 ∨ k = 7 := by omega
  all_goals kernel_rfl
/-- What the iterator has: priorities, the level, the looks. -/
structure Env (W : World) (q lb wb lk : Nat) (c : Ic) (ps : List Int) (lev : Int) (mk : Nat) : Prop where
  p : PRow W q ps
  l : W.cell? ⟨lb, 0, none⟩ = some (.int .i64 lev)
  t : W.cell? ⟨wb, 0, none⟩ = some (.func (.func 25) #[] #[.pointer (some ⟨lk, 0, none⟩)])
  k : LkRow W lk c mk
theorem Env.below {W W' : World} {q lb wb lk : Nat} {c : Ic} {ps : List Int} {lev : Int} {mk : Nat} (h : Env W q lb wb lk c ps lev mk) (hb : Below W.heap.size W W') : Env W' q lb wb lk c ps lev mk :=
  ⟨h.p.below hb h.p.lt, (hb.cell (World.block_lt_of_cell? W _ h.l)).trans h.l, (hb.cell (World.block_lt_of_cell? W _ h.t)).trans h.t, VRow.below h.k hb (VRow.lt h.k)⟩
set_option maxRecDepth 100000 in
set_option maxHeartbeats 1000000 in
theorem ready_iter (n l q lb wb lk : Nat) (c : Ic) (ps : List Int) (lev : Int) (mk : Nat) (J : Nat → World → Prop) (h : c.ok) (hp : PsOk ps) (h0 : -9223372036854775808 ≤ lev) (h1 : lev ≤ 9223372036854775807) (hm : mk < 256)
    (hJE : ∀ k W, J k W → Env W q lb wb lk c ps lev mk) (hJB : ∀ k W W', J k W → Below W.heap.size W W' → J k W')
    (hJN : ∀ k W, k < 8 → mayI c ps lev mk k = false → J k W → J (k + 1) W)
    (hJY : ∀ k W, k < 8 → mayI c ps lev mk k = true → J k W → YieldAt Fence.wide n Try.prog l #[.int .i64 (k : Int)] W fun e W' => e = .returned (.bool true) ∧ J (k + 1) W')
    (W : World) (hj : J 0 W) :
    CallsIn Fence.wide (n + 1) Try.prog 26 #[.func (.yield l) #[] #[], .pointer (some ⟨q, 0, none⟩), .pointer (some ⟨lb, 0, none⟩), .pointer (some ⟨wb, 0, none⟩)] W fun e W' => (∃ v, e = .returned v) ∧ J 8 W' := by
  have HE := Lib.hid hJE
  have HB := Lib.hid hJB
  have HN := Lib.hid hJN
  have HY := Lib.hid hJY
  have HPS := Lib.hid hp
  have HC := Lib.hid h
  have HRP : Hid (PRow W q ps) := Lib.hid (hJE 0 W hj).p
  clear hJE hJB hJN hJY hp h
  refine callsIn_of_wp Try.func26 rfl trivial ?_ rfl
  simp only [Try.ntmps26, List.size_toArray, List.length_cons, List.length_nil, Nat.reduceAdd, Nat.reduceSub, Array.replicate_succ, Array.replicate_zero, List.push_toArray, List.append_toArray, List.nil_append, List.cons_append]
  gi_wp2_with ((with_reducible show wpListIn _ _ _ _ _ (⟨some 7, .load 24 (.tmp 1), _, _, _, _⟩ :: _) _ _); refine wpListIn_load_p (by rfl) 24 _ rfl q (by exact rfl) _ _ Try.underlying24 (by kernel_rfl) HPS.out HRP.out ?_)
  gi_loopw [8] (fun iv wr => ∃ k : Nat, k ≤ 8 ∧ iv = .int .i64 (k : Int) ∧ J k wr) (fun iv _ => 8 - (intOf iv).toNat)
  case atStart => exact ⟨0, by omega, rfl, hj⟩
  case round =>
    obtain ⟨k, hk, rfl, hjk⟩ := hrel
    have HJ0 := Lib.hid hjk
    have hE := HE.out k wr hjk
    have cl := hE.l
    have ct := hE.t
    have HL := Lib.hid hE.k
    clear hjk hE
    by_cases hlt : k < 8
    · have d1 : (k : Int) < 8 := by omega
      have hix := fun X => index_ps ps HPS.out k hlt X
      have hpr := HPS.out.prio k
      have HMY : Hid (mayI c ps lev mk k = (c.p.testBit k && c.m.testBit k && !mk.testBit k && decide (0 < prio ps k) && decide (lev < prio ps k))) := Lib.hid rfl
      have KW := Lib.hid (fun X (hl : LkRow X lk c mk) => waits_any c mk k lk X HC.out hm hlt hl)
      obtain ⟨pr, hpp⟩ : ∃ x, prio ps k = x := ⟨_, rfl⟩
      rw [hpp] at hix hpr HMY
      clear hpp
      obtain ⟨b0, hb0⟩ : ∃ b, (c.p.testBit k && c.m.testBit k && !mk.testBit k) = b := ⟨_, rfl⟩
      rw [hb0] at HMY KW
      clear hb0
      by_cases hl0 : lev < 0
      · by_cases hp0 : 0 < pr
        · have hn0 : ¬ pr ≤ 0 := by omega
          cases b0
          · skip
            have HM : Hid (mayI c ps lev mk k = false) := Lib.hid (by rw [HMY.out]; rfl)
            gi_wp2_with ((refine ⟨trivial, ?_⟩; gi_at_call 25; refine (callsIn_wide.2 (KW.out _ HL.out)).mono ?_; rintro e w2 ⟨rfl, hb2⟩; have HJ2 := Lib.hid (HB.out k wr w2 HJ0.out hb2)))
            refine ⟨fun f hf => (by cases hf), ?_⟩
            gi_wp2
            go_roundw
            case rel => exact ⟨k + 1, by omega, by go_num, HN.out k w2 hlt HM.out HJ2.out⟩
            case measure =>
              simp [intOf]
              omega
          · skip
            have HM : Hid (mayI c ps lev mk k = true) := Lib.hid (by rw [HMY.out, decide_eq_true hp0, decide_eq_true (show lev < pr by omega)]; rfl)
            gi_wp2_with ((refine ⟨trivial, ?_⟩; gi_at_call 25; refine (callsIn_wide.2 (KW.out _ HL.out)).mono ?_; rintro e w2 ⟨rfl, hb2⟩; have HJ2 := Lib.hid (HB.out k wr w2 HJ0.out hb2); obtain ⟨fn, tmps, asg, bdy, hy, hR⟩ := HY.out k w2 hlt HM.out HJ2.out; have HR := Lib.hid hR; clear hR))
            refine HR.out.mono ?_
            rintro e w3 ⟨rfl, hj3⟩
            have HJ3 := Lib.hid hj3
            clear hy HR hj3
            gi_wp2
            go_roundw
            case rel => exact ⟨k + 1, by omega, by go_num, HJ3.out⟩
            case measure =>
              simp [intOf]
              omega
        · have hn0 : pr ≤ 0 := by omega
          have HM : Hid (mayI c ps lev mk k = false) := Lib.hid (by rw [HMY.out, decide_eq_false hp0]; simp)
          gi_wp2_with ((refine ⟨trivial, ?_⟩; gi_at_call 25; refine (callsIn_wide.2 (KW.out _ HL.out)).mono ?_; rintro e w2 ⟨rfl, hb2⟩; have HJ2 := Lib.hid (HB.out k wr w2 HJ0.out hb2)))
          refine ⟨fun f hf => (by cases hf), ?_⟩
          gi_wp2
          go_roundw
          case rel => exact ⟨k + 1, by omega, by go_num, HN.out k wr hlt HM.out HJ0.out⟩
          case measure =>
            simp [intOf]
            omega
      · by_cases hp0 : lev < pr
        · have hn0 : ¬ pr ≤ lev := by omega
          cases b0
          · skip
            have HM : Hid (mayI c ps lev mk k = false) := Lib.hid (by rw [HMY.out]; rfl)
            gi_wp2_with ((refine ⟨trivial, ?_⟩; gi_at_call 25; refine (callsIn_wide.2 (KW.out _ HL.out)).mono ?_; rintro e w2 ⟨rfl, hb2⟩; have HJ2 := Lib.hid (HB.out k wr w2 HJ0.out hb2)))
            refine ⟨fun f hf => (by cases hf), ?_⟩
            gi_wp2
            go_roundw
            case rel => exact ⟨k + 1, by omega, by go_num, HN.out k w2 hlt HM.out HJ2.out⟩
            case measure =>
              simp [intOf]
              omega
          · skip
            have HM : Hid (mayI c ps lev mk k = true) := Lib.hid (by rw [HMY.out, decide_eq_true hp0, decide_eq_true (show 0 < pr by omega)]; rfl)
            gi_wp2_with ((refine ⟨trivial, ?_⟩; gi_at_call 25; refine (callsIn_wide.2 (KW.out _ HL.out)).mono ?_; rintro e w2 ⟨rfl, hb2⟩; have HJ2 := Lib.hid (HB.out k wr w2 HJ0.out hb2); obtain ⟨fn, tmps, asg, bdy, hy, hR⟩ := HY.out k w2 hlt HM.out HJ2.out; have HR := Lib.hid hR; clear hR))
            refine HR.out.mono ?_
            rintro e w3 ⟨rfl, hj3⟩
            have HJ3 := Lib.hid hj3
            clear hy HR hj3
            gi_wp2
            go_roundw
            case rel => exact ⟨k + 1, by omega, by go_num, HJ3.out⟩
            case measure =>
              simp [intOf]
              omega
        · have hn0 : pr ≤ lev := by omega
          have HM : Hid (mayI c ps lev mk k = false) := Lib.hid (by rw [HMY.out, decide_eq_false hp0]; simp)
          gi_wp2_with ((refine ⟨trivial, ?_⟩; gi_at_call 25; refine (callsIn_wide.2 (KW.out _ HL.out)).mono ?_; rintro e w2 ⟨rfl, hb2⟩; have HJ2 := Lib.hid (HB.out k wr w2 HJ0.out hb2)))
          refine ⟨fun f hf => (by cases hf), ?_⟩
          gi_wp2
          go_roundw
          case rel => exact ⟨k + 1, by omega, by go_num, HN.out k wr hlt HM.out HJ0.out⟩
          case measure =>
            simp [intOf]
            omega
    · obtain rfl : k = 8 := by omega
      gi_wp2
      go_end0
      exact ⟨⟨_, rfl⟩, HJ0.out⟩
end Go.Proofs.Ytcdomelfmkbloaa
