/-
  The program's own iterator over the tokens of a text: what it yields, one behind the other. Conditions: the listed variables marks and strconv.ErrRange hold what they hold; the text is shorter than 2^46 bytes.
-/
import Derived.Test.YtmebcenjghagoaaGreatDoorTokAt
import Derived.Test.YtmebcenjghagoaaGreatDoorIterM
import Derived.Test.YtmebcenjghagoaaGreatDoorRefL
import Derived.RangeFuncNested
import Derived.RangeFuncBound
import Derived.RangeFuncCalls
import Derived.RangeFuncLeaves
import Derived.Shelf.Abstract
import Derived.Shelf.RegionOpen
import Derived.OwnWalkIn
import Derived.TacticsInMore
import Derived.LoopNIn
import Derived.LoopIn
namespace Go.Proofs.YtmebcenjghagoaaGreatDoor
open Go.RowKit Go.Shelf

attribute [local go_sem] Oper.semAt_some

theorem tokensOf_any (s : ByteArray) (w : World) : Calls Tryz.prog 31 #[.string s] w fun e w' => e = .returned (.func (.func 45) #[] #[.pointer (some ⟨w.heap.size, 0, none⟩)]) ∧ w' = w.alloc (.cells #[.string s] 9) := by
  go_enter Tryz.func31, Tryz.ntmps31
  go_wp2
  go_ret
  exact ⟨rfl, rfl⟩
/-- How the iterator ends: all tokens have come; or the first fault. -/
def DoneI (s : ByteArray) (J : List Tk → World → Prop) (Jx : Nat × Nat → World → Prop) (e : Ending) (W' : World) : Prop :=
  (∃ v, e = .returned v) ∧ (((lexB s).2.1 = 0 ∧ J (lexB s).1 W') ∨ ((lexB s).2.1 ≠ 0 ∧ Jx (lexB s).2 W'))
/-- What a round owes: at a token. -/
def Round1 (n l n0 Bn : Nat) (J : List Tk → World → Prop) : Prop :=
  ∀ pre (tk : Tk) W0, J pre W0 → pre.length ≤ 20000 → YieldAt Fence.wide n Tryz.prog l #[.agg #[.int .i64 (tk.k : Int), .int .i64 (tk.p : Int), .int .i64 (tk.l : Int), .string tk.t, .int .i64 tk.n], .nilIface] (W0.alloc (.cells #[.int .i64 (tk.k : Int), .int .i64 (tk.p : Int), .int .i64 (tk.l : Int), .string tk.t, .int .i64 tk.n] 38)) fun e W' =>
    e = .returned (.bool true) ∧ J (pre ++ [tk]) W' ∧ Below n0 W0 W' ∧ W'.cell? ⟨Bn, 0, none⟩ = W0.cell? ⟨Bn, 0, none⟩ ∧ W'.heap[W0.heap.size]? = some (.cells #[.int .i64 (tk.k : Int), .int .i64 (tk.p : Int), .int .i64 (tk.l : Int), .string tk.t, .int .i64 tk.n] 38 (0, 0))
/-- What a round owes: at a fault. -/
def Round2 (n l n0 : Nat) (J : List Tk → World → Prop) (Jx : Nat × Nat → World → Prop) : Prop :=
  ∀ pre b (f : Nat × Nat) W0, J pre W0 → n0 ≤ b → f.1 ≠ 0 → W0.heap[b]? = some (.cells #[.int .i64 (f.1 : Int), .int .i64 (f.2 : Int)] 49 (0, 0)) →
    YieldAt Fence.wide n Tryz.prog l #[.agg #[.int .i64 0, .int .i64 0, .int .i64 0, .string ⟨#[]⟩, .int .i64 0], .iface 68 (.pointer (some ⟨b, 0, none⟩))] W0 fun e W' => e = .returned (.bool false) ∧ Jx f W'
set_option maxRecDepth 100000 in
set_option maxHeartbeats 1000000 in
theorem tokens_iter (n l Bn n0 : Nat) (s : ByteArray) (J : List Tk → World → Prop) (Jx : Nat × Nat → World → Prop) (hs : s.size ≤ 70368744177664) (hlen : ¬ 20000 < s.size)
    (hJ : ∀ pre W W', J pre W → Below W.heap.size W W' → J pre W') (hY1 : Round1 n l n0 Bn J) (hY2 : Round2 n l n0 J Jx)
    (W : World) (hc : W.cell? ⟨Bn, 0, none⟩ = some (.string s)) (hL : LaidL W) (h0 : J [] W) (hn0 : n0 ≤ W.heap.size) (h5 : 5 ≤ n0) :
    CallsIn Fence.wide (n + 1) Tryz.prog 45 #[.func (.yield l) #[] #[], .pointer (some ⟨Bn, 0, none⟩)] W (DoneI s J Jx) := by
  have HG := Lib.hid (fun (p : Nat) (hp : p ≤ s.size) (w : World) (hL : LaidL w) => behindGap_any s p w hL.mks hs hp)
  have HE := Lib.hid (fun (p q : Nat) (h1 : p ≤ q) (h2 : q ≤ s.size) (w : World) => by have := lineEnds_any (s.extract p q) w; rw [count_nls s p q h1 h2] at this; exact this)
  have HT := Lib.hid (fun (p : Nat) (hp : p ≤ s.size) (w : World) (hL : LaidL w) => tokenAt_any s p w hL hs hp)
  have HJ := Lib.hid hJ
  have HY1 := Lib.hid hY1
  have HY2 := Lib.hid hY2
  have HL := Lib.hid hL
  have hsz : s.size ≤ 20000 := by omega
  clear hJ hY1 hY2 hL hs hlen
  refine callsIn_of_wp Tryz.func45 rfl trivial ?_ rfl
  simp only [Tryz.ntmps45, List.size_toArray, List.length_cons, List.length_nil, Nat.reduceAdd, Nat.reduceSub, Array.replicate_succ, Array.replicate_zero, List.push_toArray, List.append_toArray, List.nil_append, List.cons_append]
  gi_wp2
  gi_loopw [3, 4] (fun a li wr => ∃ (p : Nat) (pre : List Tk), p ≤ s.size ∧ a = .int .i64 p ∧ li = .int .i64 (lineS s p : Nat) ∧ Hid (lexA s (gap s p) pre = lexB s) ∧ J pre wr ∧ Below n0 W wr ∧ n0 ≤ wr.heap.size ∧ Hid (wr.cell? ⟨Bn, 0, none⟩ = some (.string s)) ∧ pre.length ≤ p)
    (fun a _ _ => s.size - (intOf a).toNat)
  case atStart => exact ⟨0, [], Nat.zero_le _, rfl, by simp [lineS, nls], rfl, h0, Below.refl _ _, hn0, hc, Nat.le_refl _⟩
  case round =>
    obtain ⟨p, pre, hp, rfl, rfl, HA, hj, hbw, hz, HC, hpl0⟩ := hrel
    have HJ0 := Lib.hid hj
    have HBW := Lib.hid hbw
    have hc0 : wr.cell? ⟨Bn, 0, none⟩ = some (.string s) := HC.out
    have hBn : Bn < wr.heap.size := World.block_lt_of_cell? wr _ hc0
    have hp20 : pre.length ≤ 20000 := by omega
    have hLw := HL.out.below hbw h5
    have hq1 := gap_ge s p
    have hq2 := gap_le s p hp
    have HG1 := Lib.hid (HG.out p hp wr hLw)
    obtain ⟨q, hq⟩ : ∃ q, gap s p = q := ⟨_, rfl⟩
    rw [hq] at HG1 hq1 hq2 HA
    have HE1 := Lib.hid (HE.out p q hq1 hq2 wr)
    have HT1 := Lib.hid (HT.out q hq2 wr hLw)
    have hb1 := lineS_bd s p
    have hb2 := nls_le s p q
    have HLN := Lib.hid (lineS_add s p q hq1 hq2)
    have kpq : (p : Int) ≤ (q : Int) := by omega
    have kq : (q : Int) ≤ (s.size : Int) := by omega
    clear hq hj hbw hLw HG HE HT hc
    generalize nls s p q = nn at *
    generalize lineS s p = ln at *
    by_cases hlt : q < s.size
    · have hTo : tokS s q = oneT s q := by unfold tokS; rw [if_pos hlt]
      by_cases hf : (oneT s q).2.1 = 0
      · have hk := oneT_k s q hf
        have hok := oneT_ok s q hlt hf
        have hnl := tok_line s q hlt hf
        have hst := lexA_step s q pre hlt hf
        have hT2 := HT1.out.mono fun e w' h => TokAns.ok h (by rw [hTo]; exact hf)
        rw [hTo] at hT2
        unfold tok0 at hT2
        generalize (oneT s q).1 = tk at *
        obtain ⟨hk0, hkp, hkl⟩ := hk
        rw [hkp] at hT2
        have hpl := lineS_add s q (q + tk.t.size) (by omega) hok.2
        rw [hnl, Nat.add_zero] at hpl
        have el : (tk.l : Int) = (ln : Int) + (nn : Int) := by rw [hkl, HLN.out]; omega
        have ep : (tk.p : Int) = (q : Int) := by rw [hkp]
        have HT2 := Lib.hid hT2
        have HST := Lib.hid (hst.symm.trans HA.out)
        have HLL := Lib.hid (hpl.trans HLN.out)
        have kk : ((tk.k : Int) == 0) = false := by simp; omega
        have hts : tk.t.size ≤ s.size := by omega
        have EL := Lib.hid el
        have EP := Lib.hid ep
        have hok1 := hok.1
        have hok2 := hok.2
        clear hTo hf hnl hst hT2 hkp hkl hpl hok HA HT1 el ep hk0 HY2
        gi_wp2_with (first | (refine ⟨trivial, ?_⟩; gi_at_call 46; refine (callsIn_wide.2 HG1.out).mono ?_; rintro e w' ⟨rfl, rfl⟩) | (refine ⟨trivial, ?_⟩; gi_at_call 29; refine (callsIn_wide.2 HE1.out).mono ?_; rintro e w' ⟨rfl, rfl⟩) | (refine ⟨trivial, ?_⟩; gi_at_call 47; refine (callsIn_wide.2 HT2.out).mono ?_; rintro e w2 ⟨rfl, hb2⟩; have hj2 := HJ.out pre wr w2 HJ0.out hb2; obtain ⟨fn, tmps, asg, bdy, hy, hR⟩ := HY1.out pre tk w2 hj2 hp20; rw [EL.out, EP.out] at hy hR; have HR := Lib.hid hR; have HB2 := Lib.hid hb2; have hz2 := hb2.size; clear hR hb2 hj2))
        refine HR.out.mono ?_
        rintro e W3 ⟨rfl, hj3, hb3, hbc, hrow⟩
        have q0 : W3.cell? ⟨w2.heap.size, 0, none⟩ = some (.int .i64 (tk.k : Int)) := by rw [cell_of_row W3 w2.heap.size 0 _ _ _ hrow]; rfl
        have q3 : W3.cell? ⟨w2.heap.size, 3, none⟩ = some (.string tk.t) := by rw [cell_of_row W3 w2.heap.size 3 _ _ _ hrow]; rfl
        have hb23 := HBW.out.trans ((HB2.out.mono hz).trans hb3)
        have hc3 : W3.cell? ⟨Bn, 0, none⟩ = some (.string s) := hbc.trans ((HB2.out.cell (p := ⟨Bn, 0, none⟩) hBn).trans hc0)
        have HC3 := Lib.hid hc3
        have HJ3 := Lib.hid hj3
        have HB23 := Lib.hid hb23
        have hz3 := hb3.size
        clear hj3 hb3 hrow hb23 HR hy hbc
        gi_wp2
        go_roundw
        case rel => exact ⟨q + tk.t.size, pre ++ [tk], hok2, by go_num, by rw [HLL.out]; go_num, HST, HJ3.out, HB23.out, by omega, HC3, by rw [List.length_append, List.length_singleton]; omega⟩
        case measure => simp [intOf]; omega
      · have hT2 := HT1.out.mono fun e w' h => TokAns.bad h (by rw [hTo]; exact hf)
        rw [hTo] at hT2
        have hbad := lexA_bad s q pre hlt hf
        have HX := Lib.hid (HA.out.symm.trans hbad)
        have HF := Lib.hid hf
        have HT2 := Lib.hid hT2
        generalize (oneT s q).2 = f at *
        clear hTo hT2 hbad HA HT1 HY1 hf HLN
        gi_wp2_with (first | (refine ⟨trivial, ?_⟩; gi_at_call 46; refine (callsIn_wide.2 HG1.out).mono ?_; rintro e w' ⟨rfl, rfl⟩) | (refine ⟨trivial, ?_⟩; gi_at_call 29; refine (callsIn_wide.2 HE1.out).mono ?_; rintro e w' ⟨rfl, rfl⟩) | (refine ⟨trivial, ?_⟩; gi_at_call 47; refine (callsIn_wide.2 HT2.out).mono ?_; rintro e w2 ⟨b, rfl, hb0, hrow, hb2⟩; have hj2 := HJ.out pre wr w2 HJ0.out hb2; have hrow2 := (Below.heap_alloc w2 (.cells #[.int .i64 0, .int .i64 0, .int .i64 0, .string ⟨#[]⟩, .int .i64 0] 38) b (Array.getElem?_eq_some_iff.1 hrow).1).trans hrow; obtain ⟨fn, tmps, asg, bdy, hy, hR⟩ := HY2.out pre b f _ (HJ.out pre w2 _ hj2 ((Below.refl _ _).alloc (Nat.le_refl _) _)) (by omega) HF.out hrow2; have HR := Lib.hid hR; clear hR hb2 hj2 hrow hrow2))
        refine HR.out.mono ?_
        rintro e W3 ⟨rfl, hx⟩
        have HX3 := Lib.hid hx
        clear hx hy HR
        gi_wp2
        refine bodyPost_ret (results_none rfl _ _ _) rfl ?_
        exact ⟨⟨_, rfl⟩, Or.inr ⟨by rw [HX.out]; exact HF.out, by rw [HX.out]; exact HX3.out⟩⟩
    · obtain rfl : q = s.size := by omega
      have hTo : tokS s s.size = (⟨0, s.size, lineS s s.size, ByteArray.empty, 0⟩, (0, 0)) := by unfold tokS; rw [if_neg hlt]
      have hT2 := HT1.out.mono fun e w' h => TokAns.ok h (by rw [hTo])
      rw [hTo] at hT2
      unfold tok0 at hT2
      have hend := lexA_end s s.size pre hlt
      rw [HLN.out] at hend
      have HX := Lib.hid (HA.out.symm.trans hend)
      have HT2 := Lib.hid hT2
      clear hTo hT2 hend HA HT1 HY2 hlt
      gi_wp2_with (first | (refine ⟨trivial, ?_⟩; gi_at_call 46; refine (callsIn_wide.2 HG1.out).mono ?_; rintro e w' ⟨rfl, rfl⟩) | (refine ⟨trivial, ?_⟩; gi_at_call 29; refine (callsIn_wide.2 HE1.out).mono ?_; rintro e w' ⟨rfl, rfl⟩) | (refine ⟨trivial, ?_⟩; gi_at_call 47; refine (callsIn_wide.2 HT2.out).mono ?_; rintro e w2 ⟨rfl, hb2⟩; have hj2 := HJ.out pre wr w2 HJ0.out hb2; obtain ⟨fn, tmps, asg, bdy, hy, hR⟩ := HY1.out pre ⟨0, s.size, ln + nn, ByteArray.empty, 0⟩ w2 hj2 hp20; simp only [Int.natCast_add, Int.natCast_zero] at hy hR; have HR := Lib.hid hR; have HB2 := Lib.hid hb2; have hz2 := hb2.size; clear hR hb2 hj2))
      refine HR.out.mono ?_
      rintro e W3 ⟨rfl, hj3, hb3, hbc, hrow⟩
      have q0 : W3.cell? ⟨w2.heap.size, 0, none⟩ = some (.int .i64 0) := by rw [cell_of_row W3 w2.heap.size 0 _ _ _ hrow]; rfl
      have HJ3 := Lib.hid hj3
      clear hj3 hb3 hrow HR hy hbc
      gi_wp2
      refine bodyPost_ret (results_none rfl _ _ _) rfl ?_
      exact ⟨⟨_, rfl⟩, Or.inl ⟨by rw [HX.out], by rw [HX.out]; exact HJ3.out⟩⟩
end Go.Proofs.YtmebcenjghagoaaGreatDoor
