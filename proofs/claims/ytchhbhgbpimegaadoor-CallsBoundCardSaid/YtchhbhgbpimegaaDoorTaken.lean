/-
  A set of bits: the iterator of taken: what a loop over it owes in a round, and what then holds.
-/
import Derived.Test.YtchhbhgbpimegaaDoorTz
import Derived.Test.YtchhbhgbpimegaaDoorNew
namespace Go.Proofs.YtchhbhgbpimegaaDoor
open Go.RowKit Go.Shelf
set_option linter.unusedVariables false
attribute [local go_sem] Oper.semAt_some
/-- What a round of a loop over taken() owes. -/
def TakenRound (n l p lv wb : Nat) (J : World → Prop) (mu : World → Nat) : Prop :=
  ∀ W W1 W2 x, J W → IsSet W p lv wb x → x ≠ 0 → Below W.heap.size W W1 → Touch wb W1 W2 → IsSet W2 p lv wb (without x (Lib.ctz 64 x)) →
    YieldAt Fence.wide n Tryd.prog l #[.int .i64 (Lib.ctz 64 x)] W2 fun e W3 => e = .returned (.bool true) ∧ J W3 ∧ mu W3 < mu W
/-- What a loop over taken() keeps. -/
def TakenKeeps (Bn p lv wb : Nat) (J : World → Prop) : Prop :=
  ∀ W, J W → W.cell? ⟨Bn, 0, none⟩ = some (.pointer (some ⟨p, 0, none⟩)) ∧ (∃ x, IsSet W p lv wb x) ∧ TabAt 1 Lib.deBruijn64tab W ∧ 1 < W.heap.size
set_option maxRecDepth 100000 in
set_option maxHeartbeats 1000000 in
theorem taken_iter (n l Bn p lv wb : Nat) (J : World → Prop) (mu : World → Nat) (hJ : TakenKeeps Bn p lv wb J) (hY : TakenRound n l p lv wb J mu) (W : World) (h0 : J W) :
    CallsIn Fence.wide (n + 1) Tryd.prog 43 #[.func (.yield l) #[] #[], .pointer (some ⟨Bn, 0, none⟩)] W fun e W' => (∃ v, e = .returned v) ∧ ∃ W0, J W0 ∧ IsSet W0 p lv wb 0 ∧ Drawn W0 W' := by
  have HJ := Lib.hid hJ
  have HY := Lib.hid hY
  clear hJ hY
  refine callsIn_of_wp Tryd.func43 rfl trivial ?_ rfl
  simp only [Tryd.ntmps43, List.size_toArray, List.length_cons, List.length_nil, Nat.reduceAdd, Nat.reduceSub, Array.replicate_succ, Array.replicate_zero, List.push_toArray, List.append_toArray, List.nil_append, List.cons_append]
  gi_wp2
  gi_loopw [3] (fun _ wr => J wr) (fun _ wr => mu wr)
  case atStart => exact h0
  case round =>
    obtain ⟨hc, ⟨x, hs⟩, ht, hg⟩ := HJ.out wr hrel
    have hBn : Bn < wr.heap.size := World.block_lt_of_cell? wr _ hc
    have HS := Lib.hid hs
    have HR := Lib.hid hrel
    by_cases hx : x = 0
    · subst hx
      have HL := Lib.hid (least_none p lv wb wr hs)
      clear hs hrel HY ht
      gi_wp2_with (refine ⟨trivial, ?_⟩; gi_at_call 44; refine (callsIn_wide.2 HL.out).mono ?_; rintro e w' ⟨rfl, hd⟩)
      refine bodyPost_ret (results_none rfl _ _ _) rfl ?_
      exact ⟨⟨_, rfl⟩, _, HR.out, HS.out, hd⟩
    · have HL := Lib.hid (least_any p lv wb x wr hs hx ht hg)
      have hk := (ctz_bits x hs.lt hx).1
      have HRm := Lib.hid (fun W1 (hb : Below wr.heap.size wr W1) => remove_any p lv wb x (Lib.ctz 64 x) W1 hk (hs.below hb))
      have HYx := Lib.hid (fun W1 W2 h1 h2 h3 => HY.out wr W1 W2 x hrel hs hx h1 h2 h3)
      generalize Lib.ctz 64 x = m at *
      clear hs hrel ht HY
      gi_wp2_with (first | (refine ⟨trivial, ?_⟩; gi_at_call 44; refine (callsIn_wide.2 HL.out).mono ?_; rintro e W1 ⟨rfl, hb⟩; have hc1 : W1.cell? ⟨Bn, 0, none⟩ = some (.pointer (some ⟨p, 0, none⟩)) := (hb.cell (p := ⟨Bn, 0, none⟩) hBn).trans hc) | (refine ⟨trivial, ?_⟩; gi_at_call 45; refine (callsIn_wide.2 (HRm.out _ hb)).mono ?_; rintro e W2 ⟨rfl, hs2, ht2⟩; obtain ⟨fn, tmps, asg, bdy, hy, hRd⟩ := HYx.out _ _ hb ht2 hs2; have HRd := Lib.hid hRd; clear hRd hs2))
      refine HRd.out.mono ?_
      rintro e W3 ⟨rfl, hj, hmu⟩
      have HJ3 := Lib.hid hj
      have HM := Lib.hid hmu
      clear hy HRd hj hmu
      gi_wp2
      go_roundw
      case rel => exact HJ3.out
      case measure => exact HM.out
end Go.Proofs.YtchhbhgbpimegaaDoor
